import Derived.Test.YtakilpnbjihibaaGreatDoorP10
import Derived.Test.YtakilpnbjihibaaGreatDoorP11
namespace Go.Proofs.YtakilpnbjihibaaGreatDoor
set_option linter.unusedVariables false
set_option linter.unusedSimpArgs false
set_option maxHeartbeats 20000000
set_option maxRecDepth 100000
open Go.RowKit Go.Lib Go.Deep
def rcheckE (S:St):Int:=if rchB S=true then 0 else 50
theorem rcheckE_no {S:St} (h:rchB S=false):rcheckE S=50:=by unfold rcheckE;rw [h];rfl
theorem rcheckE_is (S:St):rcheckE S=checkE S:=by unfold rcheckE checkE;rw [rch_site]
theorem rgr_base {S:St} (h:rgrB S=true):(1 <= S.groups.length /\ S.groups.length <= 16) /\ S.apart.length=S.groups.length:=by
 have:=rgr_iff.1 h;have h2:=inB_iff.1 this.1.2.1;exact ⟨by omega,this.1.2.2.1⟩
theorem rch_parts {S:St} (hg:rgrB S=true) (hp:rphB S=true) (he:S.eyes.length <= 24) (hl:S.plans.length <= 8):rchB S=(allB S.eyes.length (eyeB S) && timeB S.watch && timeB S.feed && timeB S.heal && inB S.low (roundM S) 1048576 && inB S.high S.low 1048576 && allB S.plans.length (fun i=>planB S (S.pl i))):=by
 unfold rchB;rw [hg,hp,decide_eq_true he,decide_eq_true hl];rfl
theorem rch_base {S:St} (hg:rgrB S=true) (hp:rphB S=true) (he:S.eyes.length <= 24) (hl:S.plans.length <= 8):Base S:=by
 obtain ⟨⟨h1,h2,h3,h4⟩,h5,h6,h7⟩:=rgr_iff.1 hg;have hp':=hp;unfold rphB at hp';simp only [Bool.and_eq_true,allB_iff] at hp';have hph:∀ i,i < S.phases.length -> phaseB S i=true:=fun i hi=>by rw [<- rphase_iff h5];exact hp'.1.2 i hi
 have hn:=inB_iff.1 h2;have hnp:=inB_iff.1 hp'.1.1
 have hO:Okay S:=counts_iff.1 (by
  unfold countsB;rw [h2,hp'.1.1,decide_eq_true h3,decide_eq_true h4,decide_eq_true he,decide_eq_true hl];rfl)
 refine ⟨⟨hO,fun a ha=>?_,fun i hi=>?_⟩,fun i hi=>?_,fun a b ha hb=>?_⟩
 . have:=h7 a ha;unfold betweenB at this;simp only [Bool.and_eq_true,decide_eq_true_eq] at this;exact this.1
 . have:=hph i hi;unfold phaseB at this;simp only [Bool.and_eq_true,decide_eq_true_eq] at this;exact this.1.1.1.1.1.1.2
 . have:=hph i hi;unfold phaseB at this;simp only [Bool.and_eq_true,decide_eq_true_eq] at this;exact ⟨this.1.1.1.1.2,this.1.1.2⟩
 . have:=h7 a ha;unfold betweenB at this;simp only [Bool.and_eq_true,decide_eq_true_eq] at this;have h8:=allB_iff.1 this.2 b hb;unfold betB at h8;split at h8
   . exact (inB_iff.1 h8).2
   . have:=of_decide_eq_true h8;omega
theorem rch_span {S:St} (hB:Base S) (h1:inB S.low (roundM S) 1048576=true) (h2:inB S.high S.low 1048576=true):Span S:=by
 have h3:=inB_iff.1 h1;have h4:=inB_iff.1 h2;have:=hB.round S.phases.length (Nat.le_refl _);unfold roundM at h3;exact ⟨hB,by omega,by omega⟩
theorem rcheck_no {X:Sa} {S:St} {w:World} (h:Sat w X S) (hno:¬ (rgrB S=true /\ rphB S=true /\ S.eyes.length <= 24 /\ S.plans.length <= 8)):Calls Tryz.prog 37 #[siteV X S] w fun e w'=>e=.returned (.int .i64 (rcheckE S)) /\ Kept w w' none:=by
 obtain ⟨xg,xgc,xa,xac,xb,xbc,xp,xpc,xe,xec,xl,xlc⟩:=X;have hkA:Kept w (w.alloc (.cells (cx9 xg xgc xa xac xb xbc xp xpc xe xec xl xlc S) 49)) none:=Kept.alloc _ _ _ _ _;have HSB:=Hid.mk' (sbox_alloc h 49);have HK:=Hid.mk' hkA;have he9:S.eyes.length <= 9223372036854775807:=by have:=h.ek.room;have:=h.ek.max;omega
 have hl9:S.plans.length <= 9223372036854775807:=by have:=h.l.cap.room;have:=h.l.cap.max;omega
 clear h hkA;have HNO:=Hid.mk' hno;clear hno;obtain ⟨c0,c1,c2,c3,c4,c5,c6,c7,c8,c9,c10,c11,_⟩:=HSB.out;go_enter Tryz.func37,Tryz.ntmps37
 cases hgr:rgrB S with
 | false =>
  have HE:Hid (rcheckE S=50):=rcheckE_no (by unfold rchB;rw [hgr];rfl);go_wp2_with (first | (go_at_call 67;have hn:=rphases_any (HSB.out.sat.kept hk2) hn16 h3;rw [hph] at hn;refine hn.mono ?_;rintro e w3 ⟨rfl,hk3⟩;have hk3:=hk2.tr hk3;clear c0 c1 c2 c3 c4 c5 c6 c7 c8 c9 c10 c11;obtain ⟨c0,c1,c2,c3,c4,c5,c6,c7,c8,c9,c10,c11,_⟩:=HSB.out.kept hk3) | (go_at_call 66;have hn:=rgroups_any HSB.out.sat;rw [hgr] at hn;refine hn.mono ?_;rintro e w2 ⟨rfl,hk2⟩;obtain ⟨c0,c1,c2,c3,c4,c5,c6,c7,c8,c9,c10,c11,_⟩:=HSB.out.kept hk2));go_ret;exact ⟨by rw [HE.out];rfl,HK.out.tr hk2⟩
 | true =>
  obtain ⟨hn16,h3⟩:=rgr_base hgr;have H3:=Hid.mk' h3
  cases hph:rphB S with
  | false =>
   have HE:Hid (rcheckE S=50):=rcheckE_no (by unfold rchB;rw [hgr,hph];rfl);clear h3;go_wp2_with (first | (go_at_call 67;have hn:=rphases_any (HSB.out.sat.kept hk2) hn16 H3.out;rw [hph] at hn;refine hn.mono ?_;rintro e w3 ⟨rfl,hk3⟩;have hk3:=hk2.tr hk3;clear c0 c1 c2 c3 c4 c5 c6 c7 c8 c9 c10 c11;obtain ⟨c0,c1,c2,c3,c4,c5,c6,c7,c8,c9,c10,c11,_⟩:=HSB.out.kept hk3) | (go_at_call 66;have hn:=rgroups_any HSB.out.sat;rw [hgr] at hn;refine hn.mono ?_;rintro e w2 ⟨rfl,hk2⟩;obtain ⟨c0,c1,c2,c3,c4,c5,c6,c7,c8,c9,c10,c11,_⟩:=HSB.out.kept hk2));go_ret;exact ⟨by rw [HE.out];rfl,HK.out.tr hk3⟩
  | true =>
   by_cases he:S.eyes.length <= 24
   case neg =>
    have HE:Hid (rcheckE S=50):=rcheckE_no (by unfold rchB;rw [decide_eq_false he];simp);clear h3;go_wp2_with (first | (go_at_call 67;have hn:=rphases_any (HSB.out.sat.kept hk2) hn16 H3.out;rw [hph] at hn;refine hn.mono ?_;rintro e w3 ⟨rfl,hk3⟩;have hk3:=hk2.tr hk3;clear c0 c1 c2 c3 c4 c5 c6 c7 c8 c9 c10 c11;obtain ⟨c0,c1,c2,c3,c4,c5,c6,c7,c8,c9,c10,c11,_⟩:=HSB.out.kept hk3) | (go_at_call 66;have hn:=rgroups_any HSB.out.sat;rw [hgr] at hn;refine hn.mono ?_;rintro e w2 ⟨rfl,hk2⟩;obtain ⟨c0,c1,c2,c3,c4,c5,c6,c7,c8,c9,c10,c11,_⟩:=HSB.out.kept hk2));go_ret;exact ⟨by rw [HE.out];rfl,HK.out.tr hk3⟩
   by_cases hl:S.plans.length <= 8
   case neg =>
    have HE:Hid (rcheckE S=50):=rcheckE_no (by unfold rchB;rw [decide_eq_false hl];simp);clear h3;go_wp2_with (first | (go_at_call 67;have hn:=rphases_any (HSB.out.sat.kept hk2) hn16 H3.out;rw [hph] at hn;refine hn.mono ?_;rintro e w3 ⟨rfl,hk3⟩;have hk3:=hk2.tr hk3;clear c0 c1 c2 c3 c4 c5 c6 c7 c8 c9 c10 c11;obtain ⟨c0,c1,c2,c3,c4,c5,c6,c7,c8,c9,c10,c11,_⟩:=HSB.out.kept hk3) | (go_at_call 66;have hn:=rgroups_any HSB.out.sat;rw [hgr] at hn;refine hn.mono ?_;rintro e w2 ⟨rfl,hk2⟩;obtain ⟨c0,c1,c2,c3,c4,c5,c6,c7,c8,c9,c10,c11,_⟩:=HSB.out.kept hk2));go_ret;exact ⟨by rw [HE.out];rfl,HK.out.tr hk3⟩
   exact absurd ⟨hgr,hph,he,hl⟩ HNO.out
theorem rcheck_yes {X:Sa} {S:St} {w:World} (h:Sat w X S) (hgr:rgrB S=true) (hph:rphB S=true) (he:S.eyes.length <= 24) (hl:S.plans.length <= 8):Calls Tryz.prog 37 #[siteV X S] w fun e w'=>e=.returned (.int .i64 (rcheckE S)) /\ Kept w w' none:=by
 obtain ⟨xg,xgc,xa,xac,xb,xbc,xp,xpc,xe,xec,xl,xlc⟩:=X;have hkA:Kept w (w.alloc (.cells (cx9 xg xgc xa xac xb xbc xp xpc xe xec xl xlc S) 49)) none:=Kept.alloc _ _ _ _ _;have HSB:=Hid.mk' (sbox_alloc h 49);have HK:=Hid.mk' hkA;have he9:S.eyes.length <= 9223372036854775807:=by have:=h.ek.room;have:=h.ek.max;omega
 have hl9:S.plans.length <= 9223372036854775807:=by have:=h.l.cap.room;have:=h.l.cap.max;omega
 clear h hkA;obtain ⟨hn16,h3⟩:=rgr_base hgr;have H3:=Hid.mk' h3;have HBS:=Hid.mk' (rch_base hgr hph he hl);have hnp:=HBS.out.sh.ok.np;have HP:=Hid.mk' (rch_parts hgr hph he hl);clear h3;obtain ⟨c0,c1,c2,c3,c4,c5,c6,c7,c8,c9,c10,c11,_⟩:=HSB.out;go_enter Tryz.func37,Tryz.ntmps37;go_wp2_with (first | (go_at_call 67;have hn:=rphases_any (HSB.out.sat.kept hk2) hn16 H3.out;rw [hph] at hn;refine hn.mono ?_;rintro e w3 ⟨rfl,hk3⟩;have hk3:=hk2.tr hk3;clear c0 c1 c2 c3 c4 c5 c6 c7 c8 c9 c10 c11;obtain ⟨c0,c1,c2,c3,c4,c5,c6,c7,c8,c9,c10,c11,_⟩:=HSB.out.kept hk3) | (go_at_call 66;have hn:=rgroups_any HSB.out.sat;rw [hgr] at hn;refine hn.mono ?_;rintro e w2 ⟨rfl,hk2⟩;obtain ⟨c0,c1,c2,c3,c4,c5,c6,c7,c8,c9,c10,c11,_⟩:=HSB.out.kept hk2));clear c0 c1 c2 c3 c4 c5 c6 c7 c8 c9 c10 c11 hgr hph hk2;generalize hW:(w.alloc (.cells (cx9 xg xgc xa xac xb xbc xp xpc xe xec xl xlc S) 49))=W at *;clear hW;go_loopw [3] (fun i wr=>∃ k:Nat,k <= S.eyes.length /\ i=.int .i64 k /\ Hid (∀ j,j < k -> eyeB S j=true) /\ Kept W wr none) (fun i _=>S.eyes.length - (intOf i).toNat)
 case atStart=>exact ⟨0,Nat.zero_le _,rfl,(fun j hj=>by omega),hk3⟩
 case round =>
  clear hk3;obtain ⟨k,hk,rfl,HJ,hkr⟩:=hrel;by_cases hlt:k < S.eyes.length
  . have c5:=(HSB.out.kept hkr).c5;have c4:=(HSB.out.kept hkr).c4;obtain ⟨be,oe,ee,g0,g1,g2,g3⟩:=(HSB.out.kept hkr).sat.eyAt hlt;dsimp only at ee;rw [ee] at c5;have hbw:w.heap.size < wr.heap.size:=block_lt c4;have l1:=block_lt g0;clear ee;have HR:Hid (eyeB S k=(inB (S.ey k).phase 0 ((S.phases.length:Int) - 1) && inB (S.ey k).on 1 1048576 && inB (S.ey k).off 1 1048576 && inB (S.ey k).turns 1 64)):=rfl;have HN:Hid (eyeB S k=false -> rcheckE S=50):=fun q=>rcheckE_no (by rw [HP.out,allB_no hlt q];rfl)
    have hwr:IntKind.i64.wrap ((S.phases.length:Int) - 1)=(S.phases.length:Int) - 1:=wrap_in (by omega) (by omega);generalize (S.ey k).phase=y0 at *;generalize (S.ey k).on=y1 at *;generalize (S.ey k).off=y2 at *;generalize (S.ey k).turns=y3 at *
    cases h0:inB y0 0 ((S.phases.length:Int) - 1) with
    | false =>
     have HE:Hid (rcheckE S=50):=HN.out (by rw [HR.out,h0];simp);go_wp2_with (go_at_call 68;refine rin_isM (by assumption) ?_);go_ret;exact ⟨by rw [HE.out];rfl,HK.out.tr (hkr.tr (Kept.alloc _ _ _ _ _))⟩
    | true =>
    cases h1:inB y1 1 1048576 with
    | false =>
     have HE:Hid (rcheckE S=50):=HN.out (by rw [HR.out,h1];simp);go_wp2_with (go_at_call 68;refine rin_isM (by assumption) ?_);go_ret;exact ⟨by rw [HE.out];rfl,HK.out.tr (hkr.tr (Kept.alloc _ _ _ _ _))⟩
    | true =>
    cases h2:inB y2 1 1048576 with
    | false =>
     have HE:Hid (rcheckE S=50):=HN.out (by rw [HR.out,h2];simp);go_wp2_with (go_at_call 68;refine rin_isM (by assumption) ?_);go_ret;exact ⟨by rw [HE.out];rfl,HK.out.tr (hkr.tr (Kept.alloc _ _ _ _ _))⟩
    | true =>
    cases h3:inB y3 1 64 with
    | false =>
     have HE:Hid (rcheckE S=50):=HN.out (by rw [HR.out,h3];simp);go_wp2_with (go_at_call 68;refine rin_isM (by assumption) ?_);go_ret;exact ⟨by rw [HE.out];rfl,HK.out.tr (hkr.tr (Kept.alloc _ _ _ _ _))⟩
    | true =>
    have HY:Hid (eyeB S k=true):=by show eyeB S k=true;rw [HR.out,h0,h1,h2,h3];rfl
    go_wp2_with (go_at_call 68;refine rin_isM (by assumption) ?_);go_roundw
    case rel=>exact ⟨k + 1,by omega,by go_num,(fun j hj=>(by
     by_cases e:j=k
     . rw [e];exact HY.out
     . exact HJ.out j (by omega))),hkr.tr (Kept.alloc _ _ _ _ _)⟩
    case measure=>simp [intOf];omega
  . have e:k=S.eyes.length:=by omega
    subst e
    have HP2:Hid (rchB S=(timeB S.watch && timeB S.feed && timeB S.heal && inB S.low (roundM S) 1048576 && inB S.high S.low 1048576 && allB S.plans.length (fun i=>planB S (S.pl i)))):=by
     show rchB S=_
     rw [HP.out,allB_iff.2 HJ.out];rfl
    have c5:=(HSB.out.kept hkr).c5;have f0:∀ w',Kept W w' none -> w'.cell? ⟨w.heap.size,0,none⟩=some (.int .i64 S.id):=fun w' k=>(HSB.out.kept k).c0
    have f1:∀ w',Kept W w' none -> w'.cell? ⟨w.heap.size,1,none⟩=some (.slice xg S.groups.length xgc):=fun w' k=>(HSB.out.kept k).c1
    have f2:∀ w',Kept W w' none -> w'.cell? ⟨w.heap.size,2,none⟩=some (.slice xa S.apart.length xac):=fun w' k=>(HSB.out.kept k).c2
    have f3:∀ w',Kept W w' none -> w'.cell? ⟨w.heap.size,3,none⟩=some (.slice xb S.between.length xbc):=fun w' k=>(HSB.out.kept k).c3
    have f4:∀ w',Kept W w' none -> w'.cell? ⟨w.heap.size,4,none⟩=some (.slice xp S.phases.length xpc):=fun w' k=>(HSB.out.kept k).c4
    have f5:∀ w',Kept W w' none -> w'.cell? ⟨w.heap.size,5,none⟩=some (.slice xe S.eyes.length xec):=fun w' k=>(HSB.out.kept k).c5
    have f6:∀ w',Kept W w' none -> w'.cell? ⟨w.heap.size,6,none⟩=some (.int .i64 S.watch):=fun w' k=>(HSB.out.kept k).c6
    have f7:∀ w',Kept W w' none -> w'.cell? ⟨w.heap.size,7,none⟩=some (.int .i64 S.feed):=fun w' k=>(HSB.out.kept k).c7
    have f8:∀ w',Kept W w' none -> w'.cell? ⟨w.heap.size,8,none⟩=some (.int .i64 S.heal):=fun w' k=>(HSB.out.kept k).c8
    have f9:∀ w',Kept W w' none -> w'.cell? ⟨w.heap.size,9,none⟩=some (.int .i64 S.low):=fun w' k=>(HSB.out.kept k).c9
    have f10:∀ w',Kept W w' none -> w'.cell? ⟨w.heap.size,10,none⟩=some (.int .i64 S.high):=fun w' k=>(HSB.out.kept k).c10
    have f11:∀ w',Kept W w' none -> w'.cell? ⟨w.heap.size,11,none⟩=some (.slice xl S.plans.length xlc):=fun w' k=>(HSB.out.kept k).c11
    cases t0:inB S.watch 1 1048576 with
    | false =>
     have HE:Hid (rcheckE S=50):=rcheckE_no (by rw [HP2.out];simp [timeB,t0]);go_wp2
     as_aux_lemma =>
     refine Code.wp_mono (Q:=Rg ?A21 W) ?c21 ?r21
     case r21 =>
      repeat (rename_i hh;clear hh)
      refine wp_region_held_drew (S:=fun w'=>Kept W w' none) (by kernel_rfl) (Kept.tr hkr (Kept.drew _ _)) (fun kH=>?_);refine htI 0 ?_ rfl (by kernel_rfl) id ?_ kH ?_
      all_goals try (intro w h;(try simp only [st3] at h ⊢);go_simp <;> with_reducible rfl)
      (try simp only [st3]);refine htI 1 ?_ rfl (by kernel_rfl) id ?_ kH ?_
      all_goals try (intro w h;(try simp only [st3] at h ⊢);go_simp <;> with_reducible rfl)
      (try simp only [st3]);refine rdy 2 (by kernel_rfl) rfl (fun K hK=>?_);go_simp;go_wp2_with (go_at_call 68;refine rin_isM (by assumption) ?_;have hKS:=kH);replace hK:=hK.out;refine hK _ _ hKS (fun kH=>?_);clear hK K;refine htI 3 ?_ rfl (by kernel_rfl) id ?_ kH ?_
      all_goals try (intro w h;(try simp only [st3] at h ⊢);go_simp <;> with_reducible rfl)
      (try simp only [st3]);refine htI 4 ?_ rfl (by kernel_rfl) id ?_ kH ?_
      all_goals try (intro w h;(try simp only [st3] at h ⊢);go_simp <;> with_reducible rfl)
      (try simp only [st3]);refine htU 5 rfl (by kernel_rfl) id kH ?_;(try simp only [st3]);refine htU 6 rfl (by kernel_rfl) id kH ?_;(try simp only [st3]);refine htU 7 rfl (by kernel_rfl) id kH ?_;(try simp only [st3]);refine htU 8 rfl (by kernel_rfl) id kH ?_;(try simp only [st3]);refine htI 9 ?_ rfl (by kernel_rfl) id ?_ kH ?_
      all_goals try (intro w h;(try simp only [st3] at h ⊢);go_simp <;> with_reducible rfl)
      (try simp only [st3]);refine htI 10 ?_ rfl (by kernel_rfl) id ?_ kH ?_
      all_goals try (intro w h;(try simp only [st3] at h ⊢);go_simp <;> with_reducible rfl)
      (try simp only [st3]);refine htU 11 rfl (by kernel_rfl) id kH ?_;(try simp only [st3]);refine htU 12 rfl (by kernel_rfl) id kH ?_;(try simp only [st3]);refine htU 13 rfl (by kernel_rfl) id kH ?_;(try simp only [st3]);refine htU 14 rfl (by kernel_rfl) id kH ?_;(try simp only [st3]);refine htI 15 ?_ rfl (by kernel_rfl) id ?_ kH ?_
      all_goals try (intro w h;(try simp only [st3] at h ⊢);go_simp <;> with_reducible rfl)
      (try simp only [st3]);refine htI 16 ?_ rfl (by kernel_rfl) id ?_ kH ?_
      all_goals try (intro w h;(try simp only [st3] at h ⊢);go_simp <;> with_reducible rfl)
      (try simp only [st3]);refine htU 17 rfl (by kernel_rfl) id kH ?_;(try simp only [st3]);refine htU 18 rfl (by kernel_rfl) id kH ?_;(try simp only [st3]);refine htU 19 rfl (by kernel_rfl) id kH ?_;(try simp only [st3]);refine htU 20 rfl (by kernel_rfl) id kH ?_;(try simp only [st3]);refine htU 21 rfl (by kernel_rfl) id kH ?_;(try simp only [st3]);refine htU 22 rfl (by kernel_rfl) id kH ?_;(try simp only [st3]);refine htI 23 ?_ rfl (by kernel_rfl) id ?_ kH ?_
      all_goals try (intro w h;(try simp only [st3] at h ⊢);go_simp <;> with_reducible rfl)
      (try simp only [st3]);refine htI 24 ?_ rfl (by kernel_rfl) id ?_ kH ?_
      all_goals try (intro w h;(try simp only [st3] at h ⊢);go_simp <;> with_reducible rfl)
      (try simp only [st3]);refine htU 25 rfl (by kernel_rfl) id kH ?_;(try simp only [st3]);refine htU 26 rfl (by kernel_rfl) id kH ?_;(try simp only [st3]);refine htU 27 rfl (by kernel_rfl) id kH ?_;(try simp only [st3]);refine htU 28 rfl (by kernel_rfl) id kH ?_;(try simp only [st3]);refine htU 29 rfl (by kernel_rfl) id kH ?_;(try simp only [st3]);refine htU 30 rfl (by kernel_rfl) id kH ?_;(try simp only [st3]);refine htI 31 ?_ rfl (by kernel_rfl) id ?_ kH ?_
      all_goals try (intro w h;(try simp only [st3] at h ⊢);go_simp <;> with_reducible rfl)
      (try simp only [st3]);refine wpAnyH_done (by kernel_rfl) ?_ _;refine And.intro ?_ kH;with_reducible rfl
     case c21 =>
     intro e a' w' hq;obtain ⟨rfl,rfl,hkq⟩:=hq.out;go_wp2;go_ret;exact ⟨by rw [HE.out];rfl,HK.out.tr hkq⟩
    | true =>
     cases t1:inB S.feed 1 1048576 with
     | false =>
      have HE:Hid (rcheckE S=50):=rcheckE_no (by rw [HP2.out];simp [timeB,t1]);go_wp2
      as_aux_lemma =>
      refine Code.wp_mono (Q:=Rg ?A33 W) ?c33 ?r33
      case r33 =>
       repeat (rename_i hh;clear hh)
       refine wp_region_held_drew (S:=fun w'=>Kept W w' none) (by kernel_rfl) (Kept.tr hkr (Kept.drew _ _)) (fun kH=>?_);refine htI 0 ?_ rfl (by kernel_rfl) id ?_ kH ?_
       all_goals try (intro w h;(try simp only [st3] at h ⊢);go_simp <;> with_reducible rfl)
       (try simp only [st3]);refine htI 1 ?_ rfl (by kernel_rfl) id ?_ kH ?_
       all_goals try (intro w h;(try simp only [st3] at h ⊢);go_simp <;> with_reducible rfl)
       (try simp only [st3]);refine rdy 2 (by kernel_rfl) rfl (fun K hK=>?_);go_simp;go_wp2_with (go_at_call 68;refine rin_isM (by assumption) ?_;have hKS:=kH);replace hK:=hK.out;refine hK _ _ hKS (fun kH=>?_);clear hK K;refine htI 3 ?_ rfl (by kernel_rfl) id ?_ kH ?_
       all_goals try (intro w h;(try simp only [st3] at h ⊢);go_simp <;> with_reducible rfl)
       (try simp only [st3]);refine htI 4 ?_ rfl (by kernel_rfl) id ?_ kH ?_
       all_goals try (intro w h;(try simp only [st3] at h ⊢);go_simp <;> with_reducible rfl)
       (try simp only [st3]);refine htI 5 ?_ rfl (by kernel_rfl) id ?_ kH ?_
       all_goals try (intro w h;(try simp only [st3] at h ⊢);go_simp <;> with_reducible rfl)
       (try simp only [st3]);refine htI 6 ?_ rfl (by kernel_rfl) id ?_ kH ?_
       all_goals try (intro w h;(try simp only [st3] at h ⊢);go_simp <;> with_reducible rfl)
       (try simp only [st3]);refine rdy 7 (by kernel_rfl) rfl (fun K hK=>?_);go_simp;go_wp2_with (go_at_call 68;refine rin_isM (by assumption) ?_;have hKS:=kH);replace hK:=hK.out;refine hK _ _ hKS (fun kH=>?_);clear hK K;refine htI 8 ?_ rfl (by kernel_rfl) id ?_ kH ?_
       all_goals try (intro w h;(try simp only [st3] at h ⊢);go_simp <;> with_reducible rfl)
       (try simp only [st3]);refine htI 9 ?_ rfl (by kernel_rfl) id ?_ kH ?_
       all_goals try (intro w h;(try simp only [st3] at h ⊢);go_simp <;> with_reducible rfl)
       (try simp only [st3]);refine htI 10 ?_ rfl (by kernel_rfl) id ?_ kH ?_
       all_goals try (intro w h;(try simp only [st3] at h ⊢);go_simp <;> with_reducible rfl)
       (try simp only [st3]);refine htU 11 rfl (by kernel_rfl) id kH ?_;(try simp only [st3]);refine htU 12 rfl (by kernel_rfl) id kH ?_;(try simp only [st3]);refine htU 13 rfl (by kernel_rfl) id kH ?_;(try simp only [st3]);refine htU 14 rfl (by kernel_rfl) id kH ?_;(try simp only [st3]);refine htI 15 ?_ rfl (by kernel_rfl) id ?_ kH ?_
       all_goals try (intro w h;(try simp only [st3] at h ⊢);go_simp <;> with_reducible rfl)
       (try simp only [st3]);refine htI 16 ?_ rfl (by kernel_rfl) id ?_ kH ?_
       all_goals try (intro w h;(try simp only [st3] at h ⊢);go_simp <;> with_reducible rfl)
       (try simp only [st3]);refine htU 17 rfl (by kernel_rfl) id kH ?_;(try simp only [st3]);refine htU 18 rfl (by kernel_rfl) id kH ?_;(try simp only [st3]);refine htU 19 rfl (by kernel_rfl) id kH ?_;(try simp only [st3]);refine htU 20 rfl (by kernel_rfl) id kH ?_;(try simp only [st3]);refine htU 21 rfl (by kernel_rfl) id kH ?_;(try simp only [st3]);refine htU 22 rfl (by kernel_rfl) id kH ?_;(try simp only [st3]);refine htI 23 ?_ rfl (by kernel_rfl) id ?_ kH ?_
       all_goals try (intro w h;(try simp only [st3] at h ⊢);go_simp <;> with_reducible rfl)
       (try simp only [st3]);refine htI 24 ?_ rfl (by kernel_rfl) id ?_ kH ?_
       all_goals try (intro w h;(try simp only [st3] at h ⊢);go_simp <;> with_reducible rfl)
       (try simp only [st3]);refine htU 25 rfl (by kernel_rfl) id kH ?_;(try simp only [st3]);refine htU 26 rfl (by kernel_rfl) id kH ?_;(try simp only [st3]);refine htU 27 rfl (by kernel_rfl) id kH ?_;(try simp only [st3]);refine htU 28 rfl (by kernel_rfl) id kH ?_;(try simp only [st3]);refine htU 29 rfl (by kernel_rfl) id kH ?_;(try simp only [st3]);refine htU 30 rfl (by kernel_rfl) id kH ?_;(try simp only [st3]);refine htI 31 ?_ rfl (by kernel_rfl) id ?_ kH ?_
       all_goals try (intro w h;(try simp only [st3] at h ⊢);go_simp <;> with_reducible rfl)
       (try simp only [st3]);refine wpAnyH_done (by kernel_rfl) ?_ _;refine And.intro ?_ kH;with_reducible rfl
      case c33 =>
      intro e a' w' hq;obtain ⟨rfl,rfl,hkq⟩:=hq.out;go_wp2;go_ret;exact ⟨by rw [HE.out];rfl,HK.out.tr hkq⟩
     | true =>
      cases t2:inB S.heal 1 1048576 with
      | false =>
       have HE:Hid (rcheckE S=50):=rcheckE_no (by rw [HP2.out];simp [timeB,t2]);go_wp2
       as_aux_lemma =>
       refine Code.wp_mono (Q:=Rg ?A48 W) ?c48 ?r48
       case r48 =>
        repeat (rename_i hh;clear hh)
        refine wp_region_held_drew (S:=fun w'=>Kept W w' none) (by kernel_rfl) (Kept.tr hkr (Kept.drew _ _)) (fun kH=>?_);refine htI 0 ?_ rfl (by kernel_rfl) id ?_ kH ?_
        all_goals try (intro w h;(try simp only [st3] at h ⊢);go_simp <;> with_reducible rfl)
        (try simp only [st3]);refine htI 1 ?_ rfl (by kernel_rfl) id ?_ kH ?_
        all_goals try (intro w h;(try simp only [st3] at h ⊢);go_simp <;> with_reducible rfl)
        (try simp only [st3]);refine rdy 2 (by kernel_rfl) rfl (fun K hK=>?_);go_simp;go_wp2_with (go_at_call 68;refine rin_isM (by assumption) ?_;have hKS:=kH);replace hK:=hK.out;refine hK _ _ hKS (fun kH=>?_);clear hK K;refine htI 3 ?_ rfl (by kernel_rfl) id ?_ kH ?_
        all_goals try (intro w h;(try simp only [st3] at h ⊢);go_simp <;> with_reducible rfl)
        (try simp only [st3]);refine htI 4 ?_ rfl (by kernel_rfl) id ?_ kH ?_
        all_goals try (intro w h;(try simp only [st3] at h ⊢);go_simp <;> with_reducible rfl)
        (try simp only [st3]);refine htI 5 ?_ rfl (by kernel_rfl) id ?_ kH ?_
        all_goals try (intro w h;(try simp only [st3] at h ⊢);go_simp <;> with_reducible rfl)
        (try simp only [st3]);refine htI 6 ?_ rfl (by kernel_rfl) id ?_ kH ?_
        all_goals try (intro w h;(try simp only [st3] at h ⊢);go_simp <;> with_reducible rfl)
        (try simp only [st3]);refine rdy 7 (by kernel_rfl) rfl (fun K hK=>?_);go_simp;go_wp2_with (go_at_call 68;refine rin_isM (by assumption) ?_;have hKS:=kH);replace hK:=hK.out;refine hK _ _ hKS (fun kH=>?_);clear hK K;refine htI 8 ?_ rfl (by kernel_rfl) id ?_ kH ?_
        all_goals try (intro w h;(try simp only [st3] at h ⊢);go_simp <;> with_reducible rfl)
        (try simp only [st3]);refine htI 9 ?_ rfl (by kernel_rfl) id ?_ kH ?_
        all_goals try (intro w h;(try simp only [st3] at h ⊢);go_simp <;> with_reducible rfl)
        (try simp only [st3]);refine htI 10 ?_ rfl (by kernel_rfl) id ?_ kH ?_
        all_goals try (intro w h;(try simp only [st3] at h ⊢);go_simp <;> with_reducible rfl)
        (try simp only [st3]);refine htI 11 ?_ rfl (by kernel_rfl) id ?_ kH ?_
        all_goals try (intro w h;(try simp only [st3] at h ⊢);go_simp <;> with_reducible rfl)
        (try simp only [st3]);refine htI 12 ?_ rfl (by kernel_rfl) id ?_ kH ?_
        all_goals try (intro w h;(try simp only [st3] at h ⊢);go_simp <;> with_reducible rfl)
        (try simp only [st3]);refine rdy 13 (by kernel_rfl) rfl (fun K hK=>?_);go_simp;go_wp2_with (go_at_call 68;refine rin_isM (by assumption) ?_;have hKS:=kH);replace hK:=hK.out;refine hK _ _ hKS (fun kH=>?_);clear hK K;refine htI 14 ?_ rfl (by kernel_rfl) id ?_ kH ?_
        all_goals try (intro w h;(try simp only [st3] at h ⊢);go_simp <;> with_reducible rfl)
        (try simp only [st3]);refine htI 15 ?_ rfl (by kernel_rfl) id ?_ kH ?_
        all_goals try (intro w h;(try simp only [st3] at h ⊢);go_simp <;> with_reducible rfl)
        (try simp only [st3]);refine htI 16 ?_ rfl (by kernel_rfl) id ?_ kH ?_
        all_goals try (intro w h;(try simp only [st3] at h ⊢);go_simp <;> with_reducible rfl)
        (try simp only [st3]);refine htU 17 rfl (by kernel_rfl) id kH ?_;(try simp only [st3]);refine htU 18 rfl (by kernel_rfl) id kH ?_;(try simp only [st3]);refine htU 19 rfl (by kernel_rfl) id kH ?_;(try simp only [st3]);refine htU 20 rfl (by kernel_rfl) id kH ?_;(try simp only [st3]);refine htU 21 rfl (by kernel_rfl) id kH ?_;(try simp only [st3]);refine htU 22 rfl (by kernel_rfl) id kH ?_;(try simp only [st3]);refine htI 23 ?_ rfl (by kernel_rfl) id ?_ kH ?_
        all_goals try (intro w h;(try simp only [st3] at h ⊢);go_simp <;> with_reducible rfl)
        (try simp only [st3]);refine htI 24 ?_ rfl (by kernel_rfl) id ?_ kH ?_
        all_goals try (intro w h;(try simp only [st3] at h ⊢);go_simp <;> with_reducible rfl)
        (try simp only [st3]);refine htU 25 rfl (by kernel_rfl) id kH ?_;(try simp only [st3]);refine htU 26 rfl (by kernel_rfl) id kH ?_;(try simp only [st3]);refine htU 27 rfl (by kernel_rfl) id kH ?_;(try simp only [st3]);refine htU 28 rfl (by kernel_rfl) id kH ?_;(try simp only [st3]);refine htU 29 rfl (by kernel_rfl) id kH ?_;(try simp only [st3]);refine htU 30 rfl (by kernel_rfl) id kH ?_;(try simp only [st3]);refine htI 31 ?_ rfl (by kernel_rfl) id ?_ kH ?_
        all_goals try (intro w h;(try simp only [st3] at h ⊢);go_simp <;> with_reducible rfl)
        (try simp only [st3]);refine wpAnyH_done (by kernel_rfl) ?_ _;refine And.intro ?_ kH;with_reducible rfl
       case c48 =>
       intro e a' w' hq;obtain ⟨rfl,rfl,hkq⟩:=hq.out;go_wp2;go_ret;exact ⟨by rw [HE.out];rfl,HK.out.tr hkq⟩
      | true =>
       cases t3:inB S.low (roundM S) 1048576 with
       | false =>
        have HE:Hid (rcheckE S=50):=rcheckE_no (by rw [HP2.out];simp [t3]);go_wp2
        as_aux_lemma =>
        refine Code.wp_mono (Q:=Rg ?A66 W) ?c66 ?r66
        case r66 =>
         repeat (rename_i hh;clear hh)
         refine wp_region_held_drew (S:=fun w'=>Kept W w' none) (by kernel_rfl) (Kept.tr hkr (Kept.drew _ _)) (fun kH=>?_);refine htI 0 ?_ rfl (by kernel_rfl) id ?_ kH ?_
         all_goals try (intro w h;(try simp only [st3] at h ⊢);go_simp <;> with_reducible rfl)
         (try simp only [st3]);refine htI 1 ?_ rfl (by kernel_rfl) id ?_ kH ?_
         all_goals try (intro w h;(try simp only [st3] at h ⊢);go_simp <;> with_reducible rfl)
         (try simp only [st3]);refine rdy 2 (by kernel_rfl) rfl (fun K hK=>?_);go_simp;go_wp2_with (go_at_call 68;refine rin_isM (by assumption) ?_;have hKS:=kH);replace hK:=hK.out;refine hK _ _ hKS (fun kH=>?_);clear hK K;refine htI 3 ?_ rfl (by kernel_rfl) id ?_ kH ?_
         all_goals try (intro w h;(try simp only [st3] at h ⊢);go_simp <;> with_reducible rfl)
         (try simp only [st3]);refine htI 4 ?_ rfl (by kernel_rfl) id ?_ kH ?_
         all_goals try (intro w h;(try simp only [st3] at h ⊢);go_simp <;> with_reducible rfl)
         (try simp only [st3]);refine htI 5 ?_ rfl (by kernel_rfl) id ?_ kH ?_
         all_goals try (intro w h;(try simp only [st3] at h ⊢);go_simp <;> with_reducible rfl)
         (try simp only [st3]);refine htI 6 ?_ rfl (by kernel_rfl) id ?_ kH ?_
         all_goals try (intro w h;(try simp only [st3] at h ⊢);go_simp <;> with_reducible rfl)
         (try simp only [st3]);refine rdy 7 (by kernel_rfl) rfl (fun K hK=>?_);go_simp;go_wp2_with (go_at_call 68;refine rin_isM (by assumption) ?_;have hKS:=kH);replace hK:=hK.out;refine hK _ _ hKS (fun kH=>?_);clear hK K;refine htI 8 ?_ rfl (by kernel_rfl) id ?_ kH ?_
         all_goals try (intro w h;(try simp only [st3] at h ⊢);go_simp <;> with_reducible rfl)
         (try simp only [st3]);refine htI 9 ?_ rfl (by kernel_rfl) id ?_ kH ?_
         all_goals try (intro w h;(try simp only [st3] at h ⊢);go_simp <;> with_reducible rfl)
         (try simp only [st3]);refine htI 10 ?_ rfl (by kernel_rfl) id ?_ kH ?_
         all_goals try (intro w h;(try simp only [st3] at h ⊢);go_simp <;> with_reducible rfl)
         (try simp only [st3]);refine htI 11 ?_ rfl (by kernel_rfl) id ?_ kH ?_
         all_goals try (intro w h;(try simp only [st3] at h ⊢);go_simp <;> with_reducible rfl)
         (try simp only [st3]);refine htI 12 ?_ rfl (by kernel_rfl) id ?_ kH ?_
         all_goals try (intro w h;(try simp only [st3] at h ⊢);go_simp <;> with_reducible rfl)
         (try simp only [st3]);refine rdy 13 (by kernel_rfl) rfl (fun K hK=>?_);go_simp;go_wp2_with (go_at_call 68;refine rin_isM (by assumption) ?_;have hKS:=kH);replace hK:=hK.out;refine hK _ _ hKS (fun kH=>?_);clear hK K;refine htI 14 ?_ rfl (by kernel_rfl) id ?_ kH ?_
         all_goals try (intro w h;(try simp only [st3] at h ⊢);go_simp <;> with_reducible rfl)
         (try simp only [st3]);refine htI 15 ?_ rfl (by kernel_rfl) id ?_ kH ?_
         all_goals try (intro w h;(try simp only [st3] at h ⊢);go_simp <;> with_reducible rfl)
         (try simp only [st3]);refine htI 16 ?_ rfl (by kernel_rfl) id ?_ kH ?_
         all_goals try (intro w h;(try simp only [st3] at h ⊢);go_simp <;> with_reducible rfl)
         (try simp only [st3]);refine htI 17 ?_ rfl (by kernel_rfl) id ?_ kH ?_
         all_goals try (intro w h;(try simp only [st3] at h ⊢);go_simp <;> with_reducible rfl)
         (try simp only [st3]);refine htI 18 ?_ rfl (by kernel_rfl) id ?_ kH ?_
         all_goals try (intro w h;(try simp only [st3] at h ⊢);go_simp <;> with_reducible rfl)
         (try simp only [st3]);refine htI 19 ?_ rfl (by kernel_rfl) id ?_ kH ?_
         all_goals try (intro w h;(try simp only [st3] at h ⊢);go_simp <;> with_reducible rfl)
         (try simp only [st3]);refine rdy 20 (by kernel_rfl) rfl (fun K hK=>?_);go_simp;go_wp2_with (go_at_call 69;refine (rround_yes (HSB.out.sat.kept kH) HBS.out).mono ?_;rintro e wS ⟨rfl,hkS⟩;have hKS:=Kept.tr kH hkS);replace hK:=hK.out;refine hK _ _ hKS (fun kH=>?_);clear hK K;refine rdy 21 (by kernel_rfl) rfl (fun K hK=>?_);go_simp;go_wp2_with (go_at_call 68;refine rin_isM (by assumption) ?_;have hKS:=kH);replace hK:=hK.out;refine hK _ _ hKS (fun kH=>?_);clear hK K;refine htI 22 ?_ rfl (by kernel_rfl) id ?_ kH ?_
         all_goals try (intro w h;(try simp only [st3] at h ⊢);go_simp <;> with_reducible rfl)
         (try simp only [st3]);refine htI 23 ?_ rfl (by kernel_rfl) id ?_ kH ?_
         all_goals try (intro w h;(try simp only [st3] at h ⊢);go_simp <;> with_reducible rfl)
         (try simp only [st3]);refine htI 24 ?_ rfl (by kernel_rfl) id ?_ kH ?_
         all_goals try (intro w h;(try simp only [st3] at h ⊢);go_simp <;> with_reducible rfl)
         (try simp only [st3]);refine htU 25 rfl (by kernel_rfl) id kH ?_;(try simp only [st3]);refine htU 26 rfl (by kernel_rfl) id kH ?_;(try simp only [st3]);refine htU 27 rfl (by kernel_rfl) id kH ?_;(try simp only [st3]);refine htU 28 rfl (by kernel_rfl) id kH ?_;(try simp only [st3]);refine htU 29 rfl (by kernel_rfl) id kH ?_;(try simp only [st3]);refine htU 30 rfl (by kernel_rfl) id kH ?_;(try simp only [st3]);refine htI 31 ?_ rfl (by kernel_rfl) id ?_ kH ?_
         all_goals try (intro w h;(try simp only [st3] at h ⊢);go_simp <;> with_reducible rfl)
         (try simp only [st3]);refine wpAnyH_done (by kernel_rfl) ?_ _;refine And.intro ?_ kH;with_reducible rfl
        case c66 =>
        intro e a' w' hq;obtain ⟨rfl,rfl,hkq⟩:=hq.out;go_wp2;go_ret;exact ⟨by rw [HE.out];rfl,HK.out.tr hkq⟩
       | true =>
        cases t4:inB S.high S.low 1048576 with
        | false =>
         have HE:Hid (rcheckE S=50):=rcheckE_no (by rw [HP2.out];simp [t4]);go_wp2
         as_aux_lemma =>
         refine Code.wp_mono (Q:=Rg ?A88 W) ?c88 ?r88
         case r88 =>
          repeat (rename_i hh;clear hh)
          refine wp_region_held_drew (S:=fun w'=>Kept W w' none) (by kernel_rfl) (Kept.tr hkr (Kept.drew _ _)) (fun kH=>?_);refine htI 0 ?_ rfl (by kernel_rfl) id ?_ kH ?_
          all_goals try (intro w h;(try simp only [st3] at h ⊢);go_simp <;> with_reducible rfl)
          (try simp only [st3]);refine htI 1 ?_ rfl (by kernel_rfl) id ?_ kH ?_
          all_goals try (intro w h;(try simp only [st3] at h ⊢);go_simp <;> with_reducible rfl)
          (try simp only [st3]);refine rdy 2 (by kernel_rfl) rfl (fun K hK=>?_);go_simp;go_wp2_with (go_at_call 68;refine rin_isM (by assumption) ?_;have hKS:=kH);replace hK:=hK.out;refine hK _ _ hKS (fun kH=>?_);clear hK K;refine htI 3 ?_ rfl (by kernel_rfl) id ?_ kH ?_
          all_goals try (intro w h;(try simp only [st3] at h ⊢);go_simp <;> with_reducible rfl)
          (try simp only [st3]);refine htI 4 ?_ rfl (by kernel_rfl) id ?_ kH ?_
          all_goals try (intro w h;(try simp only [st3] at h ⊢);go_simp <;> with_reducible rfl)
          (try simp only [st3]);refine htI 5 ?_ rfl (by kernel_rfl) id ?_ kH ?_
          all_goals try (intro w h;(try simp only [st3] at h ⊢);go_simp <;> with_reducible rfl)
          (try simp only [st3]);refine htI 6 ?_ rfl (by kernel_rfl) id ?_ kH ?_
          all_goals try (intro w h;(try simp only [st3] at h ⊢);go_simp <;> with_reducible rfl)
          (try simp only [st3]);refine rdy 7 (by kernel_rfl) rfl (fun K hK=>?_);go_simp;go_wp2_with (go_at_call 68;refine rin_isM (by assumption) ?_;have hKS:=kH);replace hK:=hK.out;refine hK _ _ hKS (fun kH=>?_);clear hK K;refine htI 8 ?_ rfl (by kernel_rfl) id ?_ kH ?_
          all_goals try (intro w h;(try simp only [st3] at h ⊢);go_simp <;> with_reducible rfl)
          (try simp only [st3]);refine htI 9 ?_ rfl (by kernel_rfl) id ?_ kH ?_
          all_goals try (intro w h;(try simp only [st3] at h ⊢);go_simp <;> with_reducible rfl)
          (try simp only [st3]);refine htI 10 ?_ rfl (by kernel_rfl) id ?_ kH ?_
          all_goals try (intro w h;(try simp only [st3] at h ⊢);go_simp <;> with_reducible rfl)
          (try simp only [st3]);refine htI 11 ?_ rfl (by kernel_rfl) id ?_ kH ?_
          all_goals try (intro w h;(try simp only [st3] at h ⊢);go_simp <;> with_reducible rfl)
          (try simp only [st3]);refine htI 12 ?_ rfl (by kernel_rfl) id ?_ kH ?_
          all_goals try (intro w h;(try simp only [st3] at h ⊢);go_simp <;> with_reducible rfl)
          (try simp only [st3]);refine rdy 13 (by kernel_rfl) rfl (fun K hK=>?_);go_simp;go_wp2_with (go_at_call 68;refine rin_isM (by assumption) ?_;have hKS:=kH);replace hK:=hK.out;refine hK _ _ hKS (fun kH=>?_);clear hK K;refine htI 14 ?_ rfl (by kernel_rfl) id ?_ kH ?_
          all_goals try (intro w h;(try simp only [st3] at h ⊢);go_simp <;> with_reducible rfl)
          (try simp only [st3]);refine htI 15 ?_ rfl (by kernel_rfl) id ?_ kH ?_
          all_goals try (intro w h;(try simp only [st3] at h ⊢);go_simp <;> with_reducible rfl)
          (try simp only [st3]);refine htI 16 ?_ rfl (by kernel_rfl) id ?_ kH ?_
          all_goals try (intro w h;(try simp only [st3] at h ⊢);go_simp <;> with_reducible rfl)
          (try simp only [st3]);refine htI 17 ?_ rfl (by kernel_rfl) id ?_ kH ?_
          all_goals try (intro w h;(try simp only [st3] at h ⊢);go_simp <;> with_reducible rfl)
          (try simp only [st3]);refine htI 18 ?_ rfl (by kernel_rfl) id ?_ kH ?_
          all_goals try (intro w h;(try simp only [st3] at h ⊢);go_simp <;> with_reducible rfl)
          (try simp only [st3]);refine htI 19 ?_ rfl (by kernel_rfl) id ?_ kH ?_
          all_goals try (intro w h;(try simp only [st3] at h ⊢);go_simp <;> with_reducible rfl)
          (try simp only [st3]);refine rdy 20 (by kernel_rfl) rfl (fun K hK=>?_);go_simp;go_wp2_with (go_at_call 69;refine (rround_yes (HSB.out.sat.kept kH) HBS.out).mono ?_;rintro e wS ⟨rfl,hkS⟩;have hKS:=Kept.tr kH hkS);replace hK:=hK.out;refine hK _ _ hKS (fun kH=>?_);clear hK K;refine rdy 21 (by kernel_rfl) rfl (fun K hK=>?_);go_simp;go_wp2_with (go_at_call 68;refine rin_isM (by assumption) ?_;have hKS:=kH);replace hK:=hK.out;refine hK _ _ hKS (fun kH=>?_);clear hK K;refine htI 22 ?_ rfl (by kernel_rfl) id ?_ kH ?_
          all_goals try (intro w h;(try simp only [st3] at h ⊢);go_simp <;> with_reducible rfl)
          (try simp only [st3]);refine htI 23 ?_ rfl (by kernel_rfl) id ?_ kH ?_
          all_goals try (intro w h;(try simp only [st3] at h ⊢);go_simp <;> with_reducible rfl)
          (try simp only [st3]);refine htI 24 ?_ rfl (by kernel_rfl) id ?_ kH ?_
          all_goals try (intro w h;(try simp only [st3] at h ⊢);go_simp <;> with_reducible rfl)
          (try simp only [st3]);refine htI 25 ?_ rfl (by kernel_rfl) id ?_ kH ?_
          all_goals try (intro w h;(try simp only [st3] at h ⊢);go_simp <;> with_reducible rfl)
          (try simp only [st3]);refine htI 26 ?_ rfl (by kernel_rfl) id ?_ kH ?_
          all_goals try (intro w h;(try simp only [st3] at h ⊢);go_simp <;> with_reducible rfl)
          (try simp only [st3]);refine htI 27 ?_ rfl (by kernel_rfl) id ?_ kH ?_
          all_goals try (intro w h;(try simp only [st3] at h ⊢);go_simp <;> with_reducible rfl)
          (try simp only [st3]);refine htI 28 ?_ rfl (by kernel_rfl) id ?_ kH ?_
          all_goals try (intro w h;(try simp only [st3] at h ⊢);go_simp <;> with_reducible rfl)
          (try simp only [st3]);refine rdy 29 (by kernel_rfl) rfl (fun K hK=>?_);go_simp;go_wp2_with (go_at_call 68;refine rin_isM (by assumption) ?_;have hKS:=kH);replace hK:=hK.out;refine hK _ _ hKS (fun kH=>?_);clear hK K;refine htI 30 ?_ rfl (by kernel_rfl) id ?_ kH ?_
          all_goals try (intro w h;(try simp only [st3] at h ⊢);go_simp <;> with_reducible rfl)
          (try simp only [st3]);refine htI 31 ?_ rfl (by kernel_rfl) id ?_ kH ?_
          all_goals try (intro w h;(try simp only [st3] at h ⊢);go_simp <;> with_reducible rfl)
          (try simp only [st3]);refine wpAnyH_done (by kernel_rfl) ?_ _;refine And.intro ?_ kH;with_reducible rfl
         case c88 =>
         intro e a' w' hq;obtain ⟨rfl,rfl,hkq⟩:=hq.out;go_wp2;go_ret;exact ⟨by rw [HE.out];rfl,HK.out.tr hkq⟩
        | true =>
         have HSP:=Hid.mk' (rch_span HBS.out t3 t4)
         have HP3:Hid (rchB S=allB S.plans.length (fun i=>planB S (S.pl i))):=by
          show rchB S=_
          rw [HP2.out];simp [timeB,t0,t1,t2,t3,t4]
         go_wp2
         as_aux_lemma =>
         refine Code.wp_mono (Q:=Rg ?A115 W) ?c115 ?r115
         case r115 =>
          repeat (rename_i hh;clear hh)
          refine wp_region_held_drew (S:=fun w'=>Kept W w' none) (by kernel_rfl) (Kept.tr hkr (Kept.drew _ _)) (fun kH=>?_);refine htI 0 ?_ rfl (by kernel_rfl) id ?_ kH ?_
          all_goals try (intro w h;(try simp only [st3] at h ⊢);go_simp <;> with_reducible rfl)
          (try simp only [st3]);refine htI 1 ?_ rfl (by kernel_rfl) id ?_ kH ?_
          all_goals try (intro w h;(try simp only [st3] at h ⊢);go_simp <;> with_reducible rfl)
          (try simp only [st3]);refine rdy 2 (by kernel_rfl) rfl (fun K hK=>?_);go_simp;go_wp2_with (go_at_call 68;refine rin_isM (by assumption) ?_;have hKS:=kH);replace hK:=hK.out;refine hK _ _ hKS (fun kH=>?_);clear hK K;refine htI 3 ?_ rfl (by kernel_rfl) id ?_ kH ?_
          all_goals try (intro w h;(try simp only [st3] at h ⊢);go_simp <;> with_reducible rfl)
          (try simp only [st3]);refine htI 4 ?_ rfl (by kernel_rfl) id ?_ kH ?_
          all_goals try (intro w h;(try simp only [st3] at h ⊢);go_simp <;> with_reducible rfl)
          (try simp only [st3]);refine htI 5 ?_ rfl (by kernel_rfl) id ?_ kH ?_
          all_goals try (intro w h;(try simp only [st3] at h ⊢);go_simp <;> with_reducible rfl)
          (try simp only [st3]);refine htI 6 ?_ rfl (by kernel_rfl) id ?_ kH ?_
          all_goals try (intro w h;(try simp only [st3] at h ⊢);go_simp <;> with_reducible rfl)
          (try simp only [st3]);refine rdy 7 (by kernel_rfl) rfl (fun K hK=>?_);go_simp;go_wp2_with (go_at_call 68;refine rin_isM (by assumption) ?_;have hKS:=kH);replace hK:=hK.out;refine hK _ _ hKS (fun kH=>?_);clear hK K;refine htI 8 ?_ rfl (by kernel_rfl) id ?_ kH ?_
          all_goals try (intro w h;(try simp only [st3] at h ⊢);go_simp <;> with_reducible rfl)
          (try simp only [st3]);refine htI 9 ?_ rfl (by kernel_rfl) id ?_ kH ?_
          all_goals try (intro w h;(try simp only [st3] at h ⊢);go_simp <;> with_reducible rfl)
          (try simp only [st3]);refine htI 10 ?_ rfl (by kernel_rfl) id ?_ kH ?_
          all_goals try (intro w h;(try simp only [st3] at h ⊢);go_simp <;> with_reducible rfl)
          (try simp only [st3]);refine htI 11 ?_ rfl (by kernel_rfl) id ?_ kH ?_
          all_goals try (intro w h;(try simp only [st3] at h ⊢);go_simp <;> with_reducible rfl)
          (try simp only [st3]);refine htI 12 ?_ rfl (by kernel_rfl) id ?_ kH ?_
          all_goals try (intro w h;(try simp only [st3] at h ⊢);go_simp <;> with_reducible rfl)
          (try simp only [st3]);refine rdy 13 (by kernel_rfl) rfl (fun K hK=>?_);go_simp;go_wp2_with (go_at_call 68;refine rin_isM (by assumption) ?_;have hKS:=kH);replace hK:=hK.out;refine hK _ _ hKS (fun kH=>?_);clear hK K;refine htI 14 ?_ rfl (by kernel_rfl) id ?_ kH ?_
          all_goals try (intro w h;(try simp only [st3] at h ⊢);go_simp <;> with_reducible rfl)
          (try simp only [st3]);refine htI 15 ?_ rfl (by kernel_rfl) id ?_ kH ?_
          all_goals try (intro w h;(try simp only [st3] at h ⊢);go_simp <;> with_reducible rfl)
          (try simp only [st3]);refine htI 16 ?_ rfl (by kernel_rfl) id ?_ kH ?_
          all_goals try (intro w h;(try simp only [st3] at h ⊢);go_simp <;> with_reducible rfl)
          (try simp only [st3]);refine htI 17 ?_ rfl (by kernel_rfl) id ?_ kH ?_
          all_goals try (intro w h;(try simp only [st3] at h ⊢);go_simp <;> with_reducible rfl)
          (try simp only [st3]);refine htI 18 ?_ rfl (by kernel_rfl) id ?_ kH ?_
          all_goals try (intro w h;(try simp only [st3] at h ⊢);go_simp <;> with_reducible rfl)
          (try simp only [st3]);refine htI 19 ?_ rfl (by kernel_rfl) id ?_ kH ?_
          all_goals try (intro w h;(try simp only [st3] at h ⊢);go_simp <;> with_reducible rfl)
          (try simp only [st3]);refine rdy 20 (by kernel_rfl) rfl (fun K hK=>?_);go_simp;go_wp2_with (go_at_call 69;refine (rround_yes (HSB.out.sat.kept kH) HBS.out).mono ?_;rintro e wS ⟨rfl,hkS⟩;have hKS:=Kept.tr kH hkS);replace hK:=hK.out;refine hK _ _ hKS (fun kH=>?_);clear hK K;refine rdy 21 (by kernel_rfl) rfl (fun K hK=>?_);go_simp;go_wp2_with (go_at_call 68;refine rin_isM (by assumption) ?_;have hKS:=kH);replace hK:=hK.out;refine hK _ _ hKS (fun kH=>?_);clear hK K;refine htI 22 ?_ rfl (by kernel_rfl) id ?_ kH ?_
          all_goals try (intro w h;(try simp only [st3] at h ⊢);go_simp <;> with_reducible rfl)
          (try simp only [st3]);refine htI 23 ?_ rfl (by kernel_rfl) id ?_ kH ?_
          all_goals try (intro w h;(try simp only [st3] at h ⊢);go_simp <;> with_reducible rfl)
          (try simp only [st3]);refine htI 24 ?_ rfl (by kernel_rfl) id ?_ kH ?_
          all_goals try (intro w h;(try simp only [st3] at h ⊢);go_simp <;> with_reducible rfl)
          (try simp only [st3]);refine htI 25 ?_ rfl (by kernel_rfl) id ?_ kH ?_
          all_goals try (intro w h;(try simp only [st3] at h ⊢);go_simp <;> with_reducible rfl)
          (try simp only [st3]);refine htI 26 ?_ rfl (by kernel_rfl) id ?_ kH ?_
          all_goals try (intro w h;(try simp only [st3] at h ⊢);go_simp <;> with_reducible rfl)
          (try simp only [st3]);refine htI 27 ?_ rfl (by kernel_rfl) id ?_ kH ?_
          all_goals try (intro w h;(try simp only [st3] at h ⊢);go_simp <;> with_reducible rfl)
          (try simp only [st3]);refine htI 28 ?_ rfl (by kernel_rfl) id ?_ kH ?_
          all_goals try (intro w h;(try simp only [st3] at h ⊢);go_simp <;> with_reducible rfl)
          (try simp only [st3]);refine rdy 29 (by kernel_rfl) rfl (fun K hK=>?_);go_simp;go_wp2_with (go_at_call 68;refine rin_isM (by assumption) ?_;have hKS:=kH);replace hK:=hK.out;refine hK _ _ hKS (fun kH=>?_);clear hK K;refine htI 30 ?_ rfl (by kernel_rfl) id ?_ kH ?_
          all_goals try (intro w h;(try simp only [st3] at h ⊢);go_simp <;> with_reducible rfl)
          (try simp only [st3]);refine htI 31 ?_ rfl (by kernel_rfl) id ?_ kH ?_
          all_goals try (intro w h;(try simp only [st3] at h ⊢);go_simp <;> with_reducible rfl)
          (try simp only [st3]);refine wpAnyH_done (by kernel_rfl) ?_ _;refine And.intro ?_ kH;with_reducible rfl
         case c115 =>
         intro e a' w' hq;obtain ⟨rfl,rfl,hkq⟩:=hq.out;go_wp2;clear c5 t0 t1 t2 t3 t4;go_loopw [5] (fun i wx=>∃ k:Nat,k <= S.plans.length /\ i=.int .i64 k /\ Hid (∀ j,j < k -> planB S (S.pl j)=true) /\ Kept W wx none) (fun i _=>S.plans.length - (intOf i).toNat)
         case atStart=>exact ⟨0,Nat.zero_le _,rfl,(fun j hj=>by omega),hkq⟩
         case round =>
         clear hkq hkr;obtain ⟨k,hk,rfl,HL,hkx⟩:=hrel;have c11:=f11 _ hkx;by_cases hlt:k < S.plans.length
         case neg =>
          have e:k=S.plans.length:=by omega
          subst e
          have HE:Hid (rcheckE S=0):=by
           show rcheckE S=0
           unfold rcheckE;rw [HP3.out,allB_iff.2 HL.out];rfl
          go_wp2;go_ret;exact ⟨by rw [HE.out];rfl,HK.out.tr hkx⟩
         obtain ⟨pb,off,a',c',e,p0,p1,p2,hI⟩:=HSB.out.sat.l.at_ hlt;dsimp only at e;subst e;have HNP:Hid (planB S (S.plans.getD k q0)=false -> rcheckE S=50):=fun q=>rcheckE_no (by rw [HP3.out];exact allB_no hlt q)
         have HYP:Hid (∀ b,planB S (S.plans.getD k q0)=b -> planB S (S.pl k)=b):=fun b q=>q
         generalize S.plans.getD k q0=Q at *;have HI:=Hid.mk' hI;have g0:∀ w',Kept W w' none -> w'.cell? ⟨pb,off + k * 3,none⟩=some (.int .i64 Q.cycle):=fun w' q=>cell_kept0 p0 q
         have g1:∀ w',Kept W w' none -> w'.cell? ⟨pb,off + k * 3 + 1,none⟩=some (.int .i64 Q.offset):=fun w' q=>cell_kept0 p1 q
         have g2:∀ w',Kept W w' none -> w'.cell? ⟨pb,off + k * 3 + 2,none⟩=some (.slice a' Q.splits.length c'):=fun w' q=>cell_kept0 p2 q
         clear hI p0 p1 p2
         cases hpl:planB S Q with
         | false =>
          have HE:=Hid.mk' (HNP.out hpl);go_wp2
          as_aux_lemma =>
          refine Code.wp_mono (Q:=Rg ?A142 W) ?c142 ?r142
          case r142 =>
           repeat (rename_i hh;clear hh)
           refine wp_region_held_drew (S:=fun w'=>Kept W w' none) (by kernel_rfl) (Kept.tr hkx (Kept.drew _ _)) (fun kH=>?_);refine htI 0 ?_ rfl (by kernel_rfl) id ?_ kH ?_
           all_goals try (intro w h;(try simp only [st3] at h ⊢);go_simp <;> with_reducible rfl)
           (try simp only [st3]);refine htI 1 ?_ rfl (by kernel_rfl) id ?_ kH ?_
           all_goals try (intro w h;(try simp only [st3] at h ⊢);go_simp <;> with_reducible rfl)
           (try simp only [st3]);refine htI 2 ?_ rfl (by kernel_rfl) id ?_ kH ?_
           all_goals try (intro w h;(try simp only [st3] at h ⊢);go_simp <;> with_reducible rfl)
           (try simp only [st3]);refine htI 3 ?_ rfl (by kernel_rfl) id ?_ kH ?_
           all_goals try (intro w h;(try simp only [st3] at h ⊢);go_simp <;> with_reducible rfl)
           (try simp only [st3]);refine htI 4 ?_ rfl (by kernel_rfl) id ?_ kH ?_
           all_goals try (intro w h;(try simp only [st3] at h ⊢);go_simp <;> with_reducible rfl)
           (try simp only [st3]);refine htI 5 ?_ rfl (by kernel_rfl) id ?_ kH ?_
           all_goals try (intro w h;(try simp only [st3] at h ⊢);go_simp <;> with_reducible rfl)
           (try simp only [st3]);refine rdy 6 (by kernel_rfl) rfl (fun K hK=>?_);go_simp;go_wp2_with (go_at_call 70;have hn:=rplan_yes (HSB.out.sat.kept kH) HSP.out Q a' c' (HI.out.kept kH);rw [hpl] at hn;refine hn.mono ?_;rintro e wS ⟨rfl,hkS⟩;have hKS:=Kept.tr kH hkS);replace hK:=hK.out;refine hK _ _ hKS (fun kH=>?_);clear hK K;refine htI 7 ?_ rfl (by kernel_rfl) id ?_ kH ?_
           all_goals try (intro w h;(try simp only [st3] at h ⊢);go_simp <;> with_reducible rfl)
           (try simp only [st3]);refine wpAnyH_done (by kernel_rfl) ?_ _;refine And.intro ?_ kH;with_reducible rfl
          case c142 =>
          intro e a' w' hq;obtain ⟨rfl,rfl,hkq⟩:=hq.out;go_wp2;go_ret;exact ⟨by rw [HE.out];rfl,HK.out.tr hkq⟩
         | true =>
          have HY:=Hid.mk' (HYP.out _ hpl);go_wp2
          as_aux_lemma =>
          refine Code.wp_mono (Q:=Rg ?A150 W) ?c150 ?r150
          case r150 =>
           repeat (rename_i hh;clear hh)
           refine wp_region_held_drew (S:=fun w'=>Kept W w' none) (by kernel_rfl) (Kept.tr hkx (Kept.drew _ _)) (fun kH=>?_);refine htI 0 ?_ rfl (by kernel_rfl) id ?_ kH ?_
           all_goals try (intro w h;(try simp only [st3] at h ⊢);go_simp <;> with_reducible rfl)
           (try simp only [st3]);refine htI 1 ?_ rfl (by kernel_rfl) id ?_ kH ?_
           all_goals try (intro w h;(try simp only [st3] at h ⊢);go_simp <;> with_reducible rfl)
           (try simp only [st3]);refine htI 2 ?_ rfl (by kernel_rfl) id ?_ kH ?_
           all_goals try (intro w h;(try simp only [st3] at h ⊢);go_simp <;> with_reducible rfl)
           (try simp only [st3]);refine htI 3 ?_ rfl (by kernel_rfl) id ?_ kH ?_
           all_goals try (intro w h;(try simp only [st3] at h ⊢);go_simp <;> with_reducible rfl)
           (try simp only [st3]);refine htI 4 ?_ rfl (by kernel_rfl) id ?_ kH ?_
           all_goals try (intro w h;(try simp only [st3] at h ⊢);go_simp <;> with_reducible rfl)
           (try simp only [st3]);refine htI 5 ?_ rfl (by kernel_rfl) id ?_ kH ?_
           all_goals try (intro w h;(try simp only [st3] at h ⊢);go_simp <;> with_reducible rfl)
           (try simp only [st3]);refine rdy 6 (by kernel_rfl) rfl (fun K hK=>?_);go_simp;go_wp2_with (go_at_call 70;have hn:=rplan_yes (HSB.out.sat.kept kH) HSP.out Q a' c' (HI.out.kept kH);rw [hpl] at hn;refine hn.mono ?_;rintro e wS ⟨rfl,hkS⟩;have hKS:=Kept.tr kH hkS);replace hK:=hK.out;refine hK _ _ hKS (fun kH=>?_);clear hK K;refine htI 7 ?_ rfl (by kernel_rfl) id ?_ kH ?_
           all_goals try (intro w h;(try simp only [st3] at h ⊢);go_simp <;> with_reducible rfl)
           (try simp only [st3]);refine wpAnyH_done (by kernel_rfl) ?_ _;refine And.intro ?_ kH;with_reducible rfl
          case c150 =>
          intro e a' w' hq;obtain ⟨rfl,rfl,hkq⟩:=hq.out;go_wp2;go_roundw
          case rel=>exact ⟨k + 1,by omega,by go_num,(fun j hj=>(by
           by_cases e:j=k
           . rw [e];exact HY.out
           . exact HL.out j (by omega))),hkq⟩
          case measure=>simp [intOf];omega
theorem rcheck_any {X:Sa} {S:St} {w:World} (h:Sat w X S):Calls Tryz.prog 37 #[siteV X S] w fun e w'=>e=.returned (.int .i64 (checkE S)) /\ Kept w w' none:=by
 rw [<- rcheckE_is];by_cases hy:rgrB S=true /\ rphB S=true /\ S.eyes.length <= 24 /\ S.plans.length <= 8
 . exact rcheck_yes h hy.1 hy.2.1 hy.2.2.1 hy.2.2.2
 . exact rcheck_no h hy
end Go.Proofs.YtakilpnbjihibaaGreatDoor
