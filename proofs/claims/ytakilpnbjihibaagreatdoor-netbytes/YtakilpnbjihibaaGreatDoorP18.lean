import Derived.Test.YtakilpnbjihibaaGreatDoorP12
import Derived.Test.YtakilpnbjihibaaGreatDoorP14
import Derived.Test.YtakilpnbjihibaaGreatDoorP17
namespace Go.Proofs.YtakilpnbjihibaaGreatDoor
set_option linter.unusedVariables false
set_option linter.unusedSimpArgs false
set_option maxHeartbeats 16000000
set_option maxRecDepth 100000
open Go.RowKit Go.Lib Go.Deep
theorem whole_may {X:Sa} {S:St} {w:World} (h:Sat w X S) (hs:siteB S=true):wholeE S.plans=0:=by
 have hR:=rok_may h hs;have hP:=pos_may hs;have hSp:=span_may hs;have hO:=hP.ok
 have hall:∀ i,i < S.plans.length -> planB S (S.plans.getD i q0)=true:=by
  intro i hi;have hs':=hs;unfold siteB at hs';simp only [Bool.and_eq_true,allB_iff] at hs';exact hs'.2 i hi
 have h8:cyclesB S=true:=all_of hs 8 (by omega) 0 Nat.zero_lt_one;unfold cyclesB at h8;simp only [Bool.and_eq_true,inB_iff] at h8;have hlow:=hSp.low;have hhi:=hSp.high;unfold wholeE;rw [if_neg (by have:=hR.ln;omega),if_pos];rw [mayL_iff];intro p hp;obtain ⟨i,hi,rfl⟩:=List.getElem_of_mem hp;have h1:=hall i hi;have e:S.plans.getD i q0=S.plans[i]:=by simp [hi]
 rw [e] at h1;have h2:=hR.pl _ hp;unfold planB at h1;simp only [Bool.and_eq_true,inB_iff,decide_eq_true_eq] at h1;unfold tickP at h2;unfold mayB timeB;simp only [Bool.and_eq_true,inB_iff,List.all_eq_true];have hnp:=hO.np;refine ⟨⟨⟨⟨by omega,by omega⟩,by omega,by omega⟩,by omega,by omega⟩,fun x hx=>?_⟩;have:=h2.2.2.2 x hx;omega
theorem rwrite5_any {X:Sa} {S:St} {w:World} (h:Sat w X S):Calls Tryz.prog 43 #[siteV X S] w fun e w'=>∃ a' c',e=.returned (.tuple #[.slice a' (writeL S).length c',.int .i64 (checkE S)]) /\ Mine w' w.heap.size a' (writeL S).length c' (writeL S) /\ Kept w w' none:=by
 have hkA:Kept w (w.alloc (.cells (cs9 X S) 49)) none:=Kept.alloc _ _ _ _ _;have HK:=Hid.mk' hkA;have HS:=Hid.mk' (h.kept hkA);have HSB:=Hid.mk' (sbox_alloc h 49)
 cases hs:siteB S with
 | false =>
  have hce:=checkE_no hs;have hL:writeL S=[]:=by unfold writeL;rw [if_neg (by rw [hs];decide)]
  rw [hL,hce];clear h hkA hL;go_enter Tryz.func43,Tryz.ntmps43;go_wp2_with (go_at_call 37;refine (rcheck_any HS.out).mono ?_;rintro e w2 ⟨rfl,hk2⟩;rw [hce]);go_ret2;exact ⟨none,0,rfl,Mine.empty _ _,HK.out.tr hk2⟩
 | true =>
  have hce:=checkE_yes hs;have hL:writeL S=siteL S ++ sum4 (siteL S):=by unfold writeL;rw [if_pos hs]
  have HPo:=Hid.mk' (pos_may hs);have HWh:=Hid.mk' (whole_may h hs);have hlen:=siteL_len h hs;have hlen2:(writeL S).length=(siteL S).length + 4:=by rw [hL,List.length_append,sum4_len]
  rw [hlen2,hL,hce];clear h hkA hL hlen2;go_enter Tryz.func43,Tryz.ntmps43
  go_wp2_with (first
   | (go_at_call 17;refine (rsummed_any w.heap.size M3.out (by have:=HK.out.size;have:=hk2.size;have:=hk3.size;omega) (siteL_lt S) (by omega)).mono ?_;rintro e w5 ⟨a5,c5,rfl,hm5,hg5⟩)
   | (go_at_call 73;refine (rinside_any (HS.out.kept hk2) HPo.out HWh.out).mono ?_;rintro e w3 ⟨a3,c3,rfl,hm3,hk3⟩;have M3:=Hid.mk' (hm3.lower (Nat.le_trans HK.out.size hk2.size));clear hm3)
   | (go_at_call 37;refine (rcheck_any HS.out).mono ?_;rintro e w2 ⟨rfl,hk2⟩;rw [hce];have c0:=(HSB.out.kept hk2).c0;have c1:=(HSB.out.kept hk2).c1;have c2:=(HSB.out.kept hk2).c2;have c3:=(HSB.out.kept hk2).c3;have c4:=(HSB.out.kept hk2).c4;have c5:=(HSB.out.kept hk2).c5;have c6:=(HSB.out.kept hk2).c6;have c7:=(HSB.out.kept hk2).c7;have c8:=(HSB.out.kept hk2).c8;have c9:=(HSB.out.kept hk2).c9;have c10:=(HSB.out.kept hk2).c10;have c11:=(HSB.out.kept hk2).c11))
  go_ret2;exact ⟨a5,c5,rfl,hm5,((HK.out.tr hk2).tr hk3).newRow hg5 (fun i e=>(M3.out.lt i e).1)⟩
theorem rnetE_no {N:Nt} (h:rnetB N=false):rnetE N=60:=by unfold rnetE;rw [if_neg (by rw [h];decide)]
theorem rnetE_own {N:Nt} (h:rownB N=false):rnetE N=60:=rnetE_no (by unfold rnetB;rw [h];rfl)
theorem rnetE_site {N:Nt} {k:Nat} (hk:k < N.sites.length) (h:rsiteB N k=false):rnetE N=60:=rnetE_no (by unfold rnetB;rw [allB_no hk h];simp)
theorem rcheck6r {Y:Na} {N:Nt} {w:World} (h:NetAt w Y N) (hF:NFew N):Calls Tryz.prog 16 #[netV Y N] w fun e w'=>e=.returned (.int .i64 (rnetE N)) /\ Kept w w' none:=by
 have hkA:Kept w (w.alloc (.cells (cn9 Y N) 26)) none:=Kept.alloc _ _ _ _ _;have HNB:=Hid.mk' (nbx_alloc h 26);have HK:=Hid.mk' hkA;have HF:=Hid.mk' hF;clear h hkA hF;go_enter Tryz.func16,Tryz.ntmps16
 cases b1:inB N.sites.length 1 12 with
 | false =>
  have HE:Hid (rnetE N=60):=rnetE_own (by unfold rownB;rw [b1];simp);go_wp2_with (go_at_call 36;refine rin6_isM (by assumption) ?_);go_ret;exact ⟨by rw [HE.out];rfl,HK.out⟩
 | true =>
 cases b2:inB N.low 1 1048576 with
 | false =>
  have HE:Hid (rnetE N=60):=rnetE_own (by unfold rownB;rw [show timeB N.low=false from b2];simp);go_wp2_with (go_at_call 36;refine rin6_isM (by assumption) ?_);go_ret;exact ⟨by rw [HE.out];rfl,HK.out⟩
 | true =>
 cases b3:inB N.high N.low 1048576 with
 | false =>
  have HE:Hid (rnetE N=60):=rnetE_own (by unfold rownB;rw [b3];simp);go_wp2_with (go_at_call 36;refine rin6_isM (by assumption) ?_);go_ret;exact ⟨by rw [HE.out];rfl,HK.out⟩
 | true =>
 cases b4:inB N.step 1 1048576 with
 | false =>
  have HE:Hid (rnetE N=60):=rnetE_own (by unfold rownB;rw [show timeB N.step=false from b4];simp);go_wp2_with (go_at_call 36;refine rin6_isM (by assumption) ?_);go_ret;exact ⟨by rw [HE.out];rfl,HK.out⟩
 | true =>
 have hs12:=inB_iff.1 b1;have hlo:=inB_iff.1 b2;have hhi:=inB_iff.1 b3;have hst:=inB_iff.1 b4;have hnz:(N.step == 0)=false:=by rw [beq_eq_false_iff_ne];omega
 have hnz1:¬ N.step=0:=by omega
 have hwr:IntKind.i64.wrap (N.high - N.low)=N.high - N.low:=wrap_in (by omega) (by omega);have htm:(N.high - N.low).tmod N.step=(N.high - N.low) % N.step:=Int.tmod_eq_emod_of_nonneg (by omega);have hq0:0 <= (N.high - N.low) / N.step:=Int.ediv_nonneg (by omega) (by omega);have hq1:(N.high - N.low) / N.step <= N.high - N.low:=Int.ediv_le_self _ (by omega);have htd:(N.high - N.low).tdiv N.step=(N.high - N.low) / N.step:=Int.tdiv_eq_ediv_of_nonneg (by omega);have htw:IntKind.i64.wrap ((N.high - N.low) / N.step)=(N.high - N.low) / N.step:=wrap_in (by omega) (by omega)
 have HOW:Hid (rownB N=(decide ((N.high - N.low) % N.step=0) && decide ((N.high - N.low) / N.step <= 64))):=by
  show rownB N=_
  unfold rownB;rw [b1,show timeB N.low=true from b2,b3,show timeB N.step=true from b4];simp
 generalize hrm:(N.high - N.low) % N.step=RM at *;generalize hqt:(N.high - N.low) / N.step=QT at *;by_cases h4:RM=0
 case neg =>
  have HE:Hid (rnetE N=60):=rnetE_own (by rw [HOW.out,decide_eq_false h4];rfl);go_wp2_with (go_at_call 36;refine rin6_isM (by assumption) ?_);go_ret;exact ⟨by rw [HE.out];rfl,HK.out⟩
 by_cases h5:QT <= 64
 case neg =>
  have h5':64 < QT:=by omega
  have HE:Hid (rnetE N=60):=rnetE_own (by rw [HOW.out,decide_eq_false h5];simp);go_wp2_with (go_at_call 36;refine rin6_isM (by assumption) ?_);go_ret;exact ⟨by rw [HE.out];rfl,HK.out⟩
 have h5':¬ 64 < QT:=by omega
 have HOY:Hid (rownB N=true):=by show rownB N=true;rw [HOW.out,decide_eq_true h4,decide_eq_true h5];rfl
 go_wp2_with (go_at_call 36;refine rin6_isM (by assumption) ?_);clear hnz hnz1 hwr htm hq0 hq1 htd htw hrm hqt h4 h5 h5' HOW;generalize hW:(w.alloc (.cells (cn9 Y N) 26))=W at *;clear hW;go_loopw [3] (fun i wr=>∃ k:Nat,k <= N.sites.length /\ i=.int .i64 k /\ Hid (∀ j,j < k -> rsiteB N j=true) /\ Kept W wr none) (fun i _=>N.sites.length - (intOf i).toNat)
 case atStart=>exact ⟨0,Nat.zero_le _,rfl,(fun j hj=>by omega),Kept.refl _ _⟩
 case round =>
  obtain ⟨wo,hwo⟩:∃ wo,wo=wr:=⟨wr,rfl⟩
  subst hwo;obtain ⟨k,hk,rfl,HJ,hkr⟩:=hrel;obtain ⟨c0,c1,c2,c3,c4,c5,_⟩:=HNB.out.kept hkr;by_cases hlt:k < N.sites.length
  . obtain ⟨sb,so,es,_,hc⟩:=(HNB.out.kept hkr).net.s1.at_ (by omega);rw [es] at c0;have q0:=hc k hlt 0 (by omega);have q1:=hc k hlt 1 (by omega);have q2:=hc k hlt 2 (by omega);have q3:=hc k hlt 3 (by omega);have q4:=hc k hlt 4 (by omega);have q5:=hc k hlt 5 (by omega);have q6:=hc k hlt 6 (by omega);have q7:=hc k hlt 7 (by omega);have q8:=hc k hlt 8 (by omega);have q9:=hc k hlt 9 (by omega);have q10:=hc k hlt 10 (by omega);have q11:=hc k hlt 11 (by omega);have HES:=Hid.mk' es;have HSA:=Hid.mk' ((HNB.out.kept hkr).net.s2 k hlt);have HNO:Hid (rsiteB N k=false -> rnetE N=60):=rnetE_site hlt;have HRB:Hid (rsiteB N k=(siteB (N.sites.getD k s0) && (decide ((N.sites.getD k s0).low <= N.low) && (decide (N.high <= (N.sites.getD k s0).high) && allB k (fun j=>!decide ((N.sites.getD j s0).id=(N.sites.getD k s0).id)))))):=rfl
    have HGD:Hid (∀ w',Kept W w' none -> ∀ j,j < N.sites.length -> w'.cell? ⟨sb,so + j * 12,none⟩=some (.int .i64 (N.sites.getD j s0).id)):=fun w' q j hj=>by
     obtain ⟨sb',so',es',_,hc'⟩:=(HNB.out.kept q).net.s1.at_ (by omega);rw [HES.out] at es';injection es' with es';injection es' with es1 es2;subst es1 es2;exact hc' j hj 0 (by omega)
    clear hc es;generalize hS:N.sites.getD k s0=S at *;clear hS;generalize Y.X k=Xk at *;obtain ⟨xg,xgc,xa,xac,xb,xbc,xp,xpc,xe,xec,xl,xlc⟩:=Xk;dsimp only [stV,Nat.add_zero] at q0 q1 q2 q3 q4 q5 q6 q7 q8 q9 q10 q11 HSA;have hkB:Kept wo (wo.alloc (.cells (cx9 xg xgc xa xac xb xbc xp xpc xe xec xl xlc S) 49)) none:=Kept.alloc _ _ _ _ _;have KB:=Hid.mk' (hkr.tr hkB);have HSAT:=Hid.mk' (HSA.out.kept hkB);have HBX:Hid (∀ w',Kept (wo.alloc (.cells (cx9 xg xgc xa xac xb xbc xp xpc xe xec xl xlc S) 49)) w' none -> w'.cell? ⟨wo.heap.size,0,none⟩=some (.int .i64 S.id) /\ w'.cell? ⟨wo.heap.size,9,none⟩=some (.int .i64 S.low) /\ w'.cell? ⟨wo.heap.size,10,none⟩=some (.int .i64 S.high)):=fun w' q=>⟨cell_kept0 (by simp [World.cell?_alloc_mark]) q,cell_kept0 (by simp [World.cell?_alloc_mark]) q,cell_kept0 (by simp [World.cell?_alloc_mark]) q⟩
    have hwl2:w.heap.size < wo.heap.size:=block_lt c0;clear hkB HSA
    cases a1:siteB S with
    | false =>
     have HCE:=Hid.mk' (checkE_no a1);have HE:=Hid.mk' (HNO.out (by rw [HRB.out,a1];simp));go_wp2_with (go_at_call 37;have hn:=rcheck_any (HSAT.out);rw [HCE.out] at hn;refine hn.mono ?_;rintro e w3 ⟨rfl,hk3⟩;have K3:=Hid.mk' (KB.out.tr hk3);have KQ:=Hid.mk' hk3;clear hk3 c0 c1 c2 c3 c4 c5 q0 q1 q2 q3 q4 q5 q6 q7 q8 q9 q10 q11;obtain ⟨c0,c1,c2,c3,c4,c5,_⟩:=HNB.out.kept K3.out;obtain ⟨q0,q9,q10⟩:=HBX.out _ KQ.out);go_ret;exact ⟨by rw [HE.out];rfl,HK.out.tr K3.out⟩
    | true =>
    have HCE:=Hid.mk' (checkE_yes a1);by_cases a2:S.low <= N.low
    case neg =>
     have a2':N.low < S.low:=by omega
     have HE:=Hid.mk' (HNO.out (by rw [HRB.out,decide_eq_false a2];simp));go_wp2_with (go_at_call 37;have hn:=rcheck_any (HSAT.out);rw [HCE.out] at hn;refine hn.mono ?_;rintro e w3 ⟨rfl,hk3⟩;have K3:=Hid.mk' (KB.out.tr hk3);have KQ:=Hid.mk' hk3;clear hk3 c0 c1 c2 c3 c4 c5 q0 q1 q2 q3 q4 q5 q6 q7 q8 q9 q10 q11;obtain ⟨c0,c1,c2,c3,c4,c5,_⟩:=HNB.out.kept K3.out;obtain ⟨q0,q9,q10⟩:=HBX.out _ KQ.out);go_ret;exact ⟨by rw [HE.out];rfl,HK.out.tr K3.out⟩
    have a2':¬ N.low < S.low:=by omega
    by_cases a3:N.high <= S.high
    case neg =>
     have a3':S.high < N.high:=by omega
     have HE:=Hid.mk' (HNO.out (by rw [HRB.out,decide_eq_false a3];simp));go_wp2_with (go_at_call 37;have hn:=rcheck_any (HSAT.out);rw [HCE.out] at hn;refine hn.mono ?_;rintro e w3 ⟨rfl,hk3⟩;have K3:=Hid.mk' (KB.out.tr hk3);have KQ:=Hid.mk' hk3;clear hk3 c0 c1 c2 c3 c4 c5 q0 q1 q2 q3 q4 q5 q6 q7 q8 q9 q10 q11;obtain ⟨c0,c1,c2,c3,c4,c5,_⟩:=HNB.out.kept K3.out;obtain ⟨q0,q9,q10⟩:=HBX.out _ KQ.out);go_ret;exact ⟨by rw [HE.out];rfl,HK.out.tr K3.out⟩
    have a3':¬ S.high < N.high:=by omega
    have HA:Hid (siteB S=true /\ S.low <= N.low /\ N.high <= S.high):=⟨a1,a2,a3⟩;go_wp2_with (go_at_call 37;have hn:=rcheck_any (HSAT.out);rw [HCE.out] at hn;refine hn.mono ?_;rintro e w3 ⟨rfl,hk3⟩;have K3:=Hid.mk' (KB.out.tr hk3);have KQ:=Hid.mk' hk3;clear hk3 c0 c1 c2 c3 c4 c5 q0 q1 q2 q3 q4 q5 q6 q7 q8 q9 q10 q11;obtain ⟨c0,c1,c2,c3,c4,c5,_⟩:=HNB.out.kept K3.out;obtain ⟨q0,q9,q10⟩:=HBX.out _ KQ.out);clear c0 c1 c2 c3 c4 c5 q0 q9 q10 a2' a3' a1;have HBY:=Hid.mk' (fun w' (q:Kept w3 w' none)=>HBX.out w' (KQ.out.tr q));go_loopw [5] (fun q wr=>∃ j:Nat,j <= k /\ q=.int .i64 j /\ Hid (∀ t,t < j -> (!decide ((N.sites.getD t s0).id=S.id))=true) /\ Kept w3 wr none) (fun q _=>k - (intOf q).toNat)
    case atStart=>exact ⟨0,Nat.zero_le _,rfl,(fun j hj=>by omega),Kept.refl _ _⟩
    case round =>
     obtain ⟨j,hj,rfl,HT,hkx⟩:=hrel;obtain ⟨c0,c1,c2,c3,c4,c5,_⟩:=HNB.out.kept (K3.out.tr hkx);rw [HES.out] at c0;by_cases hjl:j < k
     . have HNX:Hid ((!decide ((N.sites.getD j s0).id=S.id))=false -> rnetE N=60):=fun q=>HNO.out (by rw [HRB.out,allB_no hjl q];simp)
       have HTS:Hid (∀ t,t < j + 1 -> t ≠ j -> (!decide ((N.sites.getD t s0).id=S.id))=true):=fun t ht hne=>HT.out t (by omega)
       have g0:∀ w',Kept wr w' none -> w'.cell? ⟨wo.heap.size,0,none⟩=some (.int .i64 S.id):=fun w' q=>(HBY.out w' (hkx.tr q)).1
       have g2:∀ w',Kept wr w' none -> w'.cell? ⟨w.heap.size,0,none⟩=some (.slice (some ⟨sb,so,none⟩) N.sites.length Y.sc):=fun w' q=>cell_kept0 c0 q
       have g3:∀ w',Kept wr w' none -> w'.cell? ⟨sb,so + j * 12,none⟩=some (.int .i64 (N.sites.getD j s0).id):=fun w' q=>HGD.out w' ((K3.out.tr hkx).tr q) j (by omega)
       have hjN:j < N.sites.length:=by omega
       generalize hE:(N.sites.getD j s0).id=E at *;have HEE:=Hid.mk' hE;clear hE;clear c0 c1 c2 c3 c4 c5;by_cases ea:E=S.id
       . have HE:=Hid.mk' (HNX.out (by rw [decide_eq_true ea];rfl));rw [ea] at g3;go_wp2;refine Code.wp_mono (Q:=Rg6 ?A1 wr) ?cont1 ?reg1
         case reg1 =>
          repeat (rename_i hh;clear hh)
          refine wp_region_held_drew (S:=fun w'=>Kept wr w' none) (by kernel_rfl) (Kept.tr (Kept.refl _ _) (Kept.drew _ _)) (fun kH=>?_);refine htI 0 ?_ rfl (by kernel_rfl) id ?_ kH <| htI 1 ?_ rfl (by kernel_rfl) id ?_ kH <| htI 2 ?_ rfl (by kernel_rfl) id ?_ kH <| htI 3 ?_ rfl (by kernel_rfl) id ?_ kH <| htI 4 ?_ rfl (by kernel_rfl) id ?_ kH <| htI 5 ?_ rfl (by kernel_rfl) id ?_ kH <| htI 6 ?_ rfl (by kernel_rfl) id ?_ kH <| htI 7 ?_ rfl (by kernel_rfl) id ?_ kH <| htI 8 ?_ rfl (by kernel_rfl) id ?_ kH ?_
          all_goals try (intro w h;(try simp only [st3] at h ⊢);go_simp <;> with_reducible rfl)
          (try simp only [st3]);refine wpAnyH_done (by kernel_rfl) ?_ _;refine And.intro ?_ kH;with_reducible rfl
         case cont1 =>
         intro e a' w' hq;obtain ⟨rfl,rfl,hkq⟩:=hq.out;go_wp2;go_ret;exact ⟨by rw [HE.out];rfl,HK.out.tr (K3.out.tr (hkx.tr hkq))⟩
       . have HQ:Hid ((!decide (E=S.id))=true):=by show (!decide (E=S.id))=true;rw [decide_eq_false ea];rfl
         have ea2:(E == S.id)=false:=beq_eq_false_iff_ne.2 ea;go_wp2;refine Code.wp_mono (Q:=Rg6 ?A11 wr) ?cont11 ?reg11
         case reg11 =>
          repeat (rename_i hh;clear hh)
          refine wp_region_held_drew (S:=fun w'=>Kept wr w' none) (by kernel_rfl) (Kept.tr (Kept.refl _ _) (Kept.drew _ _)) (fun kH=>?_);refine htI 0 ?_ rfl (by kernel_rfl) id ?_ kH <| htI 1 ?_ rfl (by kernel_rfl) id ?_ kH <| htI 2 ?_ rfl (by kernel_rfl) id ?_ kH <| htI 3 ?_ rfl (by kernel_rfl) id ?_ kH <| htI 4 ?_ rfl (by kernel_rfl) id ?_ kH <| htI 5 ?_ rfl (by kernel_rfl) id ?_ kH <| htI 6 ?_ rfl (by kernel_rfl) id ?_ kH <| htI 7 ?_ rfl (by kernel_rfl) id ?_ kH <| htI 8 ?_ rfl (by kernel_rfl) id ?_ kH ?_
          all_goals try (intro w h;(try simp only [st3] at h ⊢);go_simp <;> with_reducible rfl)
          (try simp only [st3]);refine wpAnyH_done (by kernel_rfl) ?_ _;refine And.intro ?_ kH;with_reducible rfl
         case cont11 =>
         intro e a' w' hq;obtain ⟨rfl,rfl,hkq⟩:=hq.out;go_wp2;go_roundw
         case rel=>exact ⟨j + 1,by omega,by go_num,(fun t ht=>(by
          by_cases e:t=j
          . rw [e,HEE.out];exact HQ.out
          . exact HTS.out t ht e)),hkx.tr hkq⟩
         case measure=>simp [intOf];omega
     . have e:j=k:=by omega
       subst e
       have HY:Hid (rsiteB N j=true):=by
        show rsiteB N j=true
        rw [HRB.out,HA.out.1,decide_eq_true HA.out.2.1,decide_eq_true HA.out.2.2,allB_iff.2 HT.out];rfl
       go_wp2;go_roundw
       case rel=>exact ⟨j + 1,by omega,by go_num,(fun t ht=>(by
        by_cases e:t=j
        . rw [e];exact HY.out
        . exact HJ.out t (by omega))),K3.out.tr hkx⟩
       case measure=>simp [intOf];omega
  . have e:k=N.sites.length:=by omega
    subst e;have KR:=Hid.mk' hkr;have HRN:Hid (rnetB N=(rsubsB N && rwedsB N)):=by show rnetB N=_;unfold rnetB;rw [HOY.out,allB_iff.2 HJ.out];simp
    have HSU:=Hid.mk' (rsubs6_any (HNB.out.kept hkr).net HF.out (by omega));clear hkr
    cases d1:rsubsB N with
    | false =>
     have HE:Hid (rnetE N=60):=rnetE_no (by rw [HRN.out,d1];rfl);go_wp2_with (go_at_call 38;have hn:=HSU.out;rw [d1] at hn;refine hn.mono ?_;rintro e w5 ⟨rfl,hk5⟩;clear c0 c1 c2 c3 c4 c5;obtain ⟨c0,c1,c2,c3,c4,c5,_⟩:=HNB.out.kept (KR.out.tr hk5));go_ret;exact ⟨by rw [HE.out];rfl,HK.out.tr (KR.out.tr hk5)⟩
    | true =>
     have hu6:N.subs.length <= 6:=by
      unfold rsubsB at d1;rw [Bool.and_eq_true] at d1;have:=inB_iff.1 d1.1;omega
     cases d2:rwedsB N with
     | false =>
      have HE:Hid (rnetE N=60):=rnetE_no (by rw [HRN.out,d1,d2];rfl)
      go_wp2_with (first
       | (go_at_call 39;have hn:=rweds6_any (HNB.out.kept (KR.out.tr hk5)).net (by omega) hu6;rw [d2] at hn;refine hn.mono ?_;rintro e w6 ⟨rfl,hk6⟩)
       | (go_at_call 38;have hn:=HSU.out;rw [d1] at hn;refine hn.mono ?_;rintro e w5 ⟨rfl,hk5⟩;clear c0 c1 c2 c3 c4 c5;obtain ⟨c0,c1,c2,c3,c4,c5,_⟩:=HNB.out.kept (KR.out.tr hk5)))
      go_ret;exact ⟨by rw [HE.out];rfl,HK.out.tr ((KR.out.tr hk5).tr hk6)⟩
     | true =>
      have HE:Hid (rnetE N=0):=by show rnetE N=0;unfold rnetE;rw [if_pos (by rw [HRN.out,d1,d2];rfl)]
      go_wp2_with (first
       | (go_at_call 39;have hn:=rweds6_any (HNB.out.kept (KR.out.tr hk5)).net (by omega) hu6;rw [d2] at hn;refine hn.mono ?_;rintro e w6 ⟨rfl,hk6⟩)
       | (go_at_call 38;have hn:=HSU.out;rw [d1] at hn;refine hn.mono ?_;rintro e w5 ⟨rfl,hk5⟩;clear c0 c1 c2 c3 c4 c5;obtain ⟨c0,c1,c2,c3,c4,c5,_⟩:=HNB.out.kept (KR.out.tr hk5)))
      go_ret;exact ⟨by rw [HE.out];rfl,HK.out.tr ((KR.out.tr hk5).tr hk6)⟩
theorem rcheck6_any {Y:Na} {N:Nt} {w:World} (h:NetAt w Y N) (hF:NFew N):Calls Tryz.prog 16 #[netV Y N] w fun e w'=>e=.returned (.int .i64 (netE N)) /\ Kept w w' none:=by
 rw [<- rnetE_eq];exact rcheck6r h hF
theorem rl6 {wr w1:World} {b:Option Addr} {m d:Nat} {l:List Int} (hk1:Kept wr w1 none) (hI:Ints w1 b m d l) (hpos:∀ x ∈ l,0 <= x) (hlen:m <= 1099511627776) :
 Calls Tryz.prog 42 #[.slice b m d] w1 fun e w'=>∃ a' c',e=.returned (.slice a' (smlI l).length c') /\ Mine w' wr.heap.size a' (smlI l).length c' (smlI l) /\ Kept wr w' none :=
 (rsmalls6_any hI hpos hlen).mono fun e w' ⟨a',c',he,hm,hkk⟩=>⟨a',c',he,hm.lower hk1.size,hk1.tr hkk⟩
theorem wpList_jl {ops:Array Oper} {rest:List Oper} {o:Oper} {act:Act} {Q:Exit -> Act -> World -> Prop} {w:World} (hgd:o.guard=none) (s x:Operand)
 (ho:o.op=.call { callee:=.builtin .append,args:=#[s,x],argTypes:=#[27,27] }) {W0 wj:World} {a:Option Addr} {n c:Nat} {P:List Nat} {bd:Nat} (hL:Lsb W0 wj a n c P bd) (hs:act.eval s=.slice a n c) (K:Kept wj w none)
 {a4:Option Addr} {m c4:Nat} {M:List Nat} (hx:act.eval x=.slice a4 m c4) (hB:By w a4 m M) (ha:a4=none -> c4=0) (hb:bd + m <= 1000000)
 (h:∀ a' c' w',Lsb W0 w' a' (n + m) c' (P ++ M) (bd + m) -> Kept w w' (Value.slice a n c).ownBlock -> (∀ B,B < w.heap.size -> some B ≠ (Value.slice a n c).ownBlock -> some B ≠ (Value.slice a' (n + m) c').ownBlock) -> wpList Tryz.prog ops Q rest (act.put o.dst (.slice a' (n + m) c')) w'):wpList Tryz.prog ops Q (o :: rest) act w:=by
 have hle:=hL.le;refine wpList_joinA hgd s x ho W0.heap.size (.slice a n c) n P hs (hL.mine.kept K).own a4 m c4 M hx hB ha (by omega) (Nat.le_trans hL.kept.size K.size) ?_;intro a' c' w' hm hg hat;refine h a' c' w' ⟨hm,by rw [List.length_append,hL.size,hB.size],by omega,(hL.kept.tr K).newRow hg (fun i e=>(hL.mine.lt i e).1)⟩ hg (fun B hB1 hB2 e=>?_);rcases hat with q | q
 . rw [q] at e;exact hB2 e
 . rw [q] at e;injection e with e;omega
theorem rinside6_any {w:World} {Y:Na} {N:Nt} (h:NetAt w Y N) (hP:NPos N):Calls Tryz.prog 18 #[netV Y N] w fun e w'=>∃ a' c',e=.returned (.slice a' (netL N).length c') /\ Mine w' w.heap.size a' (netL N).length c' (netL N) /\ Kept w w' none /\ (netL N).length <= 80000:=by
 obtain ⟨ys,ysc,yu,yuc,yd,ydc,X,r,t⟩:=Y;have hk:Kept w (w.alloc (.cells (cy9 ys ysc yu yuc yd ydc N) 26)) none:=Kept.alloc _ _ _ _ _;have hcs:∀ j v,(cy9 ys ysc yu yuc yd ydc N)[j]? = some v -> ∀ w',Kept (w.alloc (.cells (cy9 ys ysc yu yuc yd ydc N) 26)) w' none -> w'.cell? ⟨w.heap.size,j,none⟩=some v:=fun j v hv w' q=>cell_kept0 (by simp only [World.cell?_alloc_mark];exact hv) q
 have hs0:(w.alloc (.cells (cy9 ys ysc yu yuc yd ydc N) 26)).heap.size=w.heap.size + 1:=World.size_alloc _ _;obtain ⟨W0,hW0⟩:∃ W0,w.alloc (.cells (cy9 ys ysc yu yuc yd ydc N) 26)=W0:=⟨_,rfl⟩
 rw [hW0] at hk hcs hs0;have HK0:=Hid.mk' hk;have HN:=Hid.mk' (h.kept hk);have HPO:=Hid.mk' hP;have hns:=hP.ns;have hnu:=hP.nu;have hnw:=hP.nw;have hcy:=hP.cy;have n0_:∀ w',Kept W0 w' none -> w'.cell? ⟨w.heap.size,0,none⟩=some (.slice ys N.sites.length ysc):=fun w' q=>hcs 0 _ rfl w' q
 have n1_:∀ w',Kept W0 w' none -> w'.cell? ⟨w.heap.size,1,none⟩=some (.slice yu N.subs.length yuc):=fun w' q=>hcs 1 _ rfl w' q
 have n2_:∀ w',Kept W0 w' none -> w'.cell? ⟨w.heap.size,2,none⟩=some (.slice yd N.weds.length ydc):=fun w' q=>hcs 2 _ rfl w' q
 have n3_:∀ w',Kept W0 w' none -> w'.cell? ⟨w.heap.size,3,none⟩=some (.int .i64 N.low):=fun w' q=>hcs 3 _ rfl w' q
 have n4_:∀ w',Kept W0 w' none -> w'.cell? ⟨w.heap.size,4,none⟩=some (.int .i64 N.high):=fun w' q=>hcs 4 _ rfl w' q
 have n5_:∀ w',Kept W0 w' none -> w'.cell? ⟨w.heap.size,5,none⟩=some (.int .i64 N.step):=fun w' q=>hcs 5 _ rfl w' q
 have hkv:=Kept.refl W0 none
 have HI0:Hid (∀ W9:World,Ints (W9.alloc (.cells #[.int .i64 ((N.sites.length:Int))] 3)) (some ⟨W9.heap.size,0,none⟩) 1 1 ([(N.sites.length:Int)]:List Int)):=fun W9=>ints_of W9 ([(N.sites.length:Int)]:List Int) 3 (fun x hx=>(by
  simp only [List.mem_cons,List.mem_nil_iff,or_false] at hx;subst hx;omega)) (by simp)
 have pHI0:Hid (∀ x ∈ ([(N.sites.length:Int)]:List Int),0 <= x):=fun x hx=>by
  simp only [List.mem_cons,List.mem_nil_iff,or_false] at hx;subst hx;omega
 have sHI0:(smlI ([(N.sites.length:Int)]:List Int)).length <= 10:=smlI_le (m:=1) (fun x hx=>((HI0.out W0).rng x hx).2) (by simp);have HSZ:=Hid.mk' hs0;clear h hP hk hcs hs0;go_enter Tryz.func18,Tryz.ntmps18;go_wp2_with (first | rw [hW0] | (go_at_call 42;refine (rl6 (Kept.alloc _ _ _ _ _) (HI0.out W0) pHI0.out (by omega)).mono ?_;rintro e w1 ⟨a1,c1,rfl,hm1,hk1⟩;have hkv1:Kept W0 w1 none:=hk1));have HL:Hid (Lsb W0 w1 a1 (smlI [(N.sites.length:Int)]).length c1 (nsI N 0) 10):=⟨by simpa [nsI] using hm1,by simp [nsI],by omega,hk1⟩;clear hW0 hm1 hk1 HI0 pHI0 hkv1;go_loopw [3,4] (fun s i wr=>∃ k:Nat,k <= N.sites.length /\ i=.int .i64 k /\ ∃ a1 n1 c1,s=.slice a1 n1 c1 /\ Lsb W0 wr a1 n1 c1 (nsI N k) (10 + 5560 * k)) (fun _ i _=>N.sites.length - (intOf i).toNat)
 case atStart=>exact ⟨0,Nat.zero_le _,rfl,_,_,_,rfl,HL.out.at0 rfl rfl (by omega)⟩
 case round =>
  clear HL;obtain ⟨k,hk,rfl,a0,n0,c0,rfl,hL⟩:=hrel;have hle:=hL.le;have hkw:=hL.kept;have L0:=Hid.mk' hL;clear hL;by_cases hlt:k < N.sites.length
  . obtain ⟨sb,so,es,_,hc⟩:=(HN.out.kept hkw).s1.at_ (by omega);dsimp only at es;subst es;have hXk:=(HN.out.kept hkw).s2 k hlt;have e0:=hc k hlt 0 (by omega);have e1:=hc k hlt 1 (by omega);have e2:=hc k hlt 2 (by omega);have e3:=hc k hlt 3 (by omega);have e4:=hc k hlt 4 (by omega);have e5:=hc k hlt 5 (by omega);have e6:=hc k hlt 6 (by omega);have e7:=hc k hlt 7 (by omega);have e8:=hc k hlt 8 (by omega);have e9:=hc k hlt 9 (by omega);have e10:=hc k hlt 10 (by omega);have e11:=hc k hlt 11 (by omega);have hsk:=HPO.out.st k hlt;have HST:=Hid.mk' (nsI_succ hlt);generalize N.sites.getD k s0=S at *;dsimp only at e0 e1 e2 e3 e4 e5 e6 e7 e8 e9 e10 e11 hXk;generalize X k=Xk at *;obtain ⟨xg,xgc,xa,xac,xb,xbc,xp,xpc,xe,xec,xl,xlc⟩:=Xk;dsimp only [stV,Nat.add_zero] at e0 e1 e2 e3 e4 e5 e6 e7 e8 e9 e10 e11
    have hwl:(writeL S).length <= 5544:=by
     have:=siteL_len hXk hsk;unfold writeL;rw [if_pos hsk,List.length_append,sum4_len];omega
    have HCW:=Hid.mk' (rwrite5_any hXk);clear hc hXk
    have HI1:Hid (∀ W9:World,Ints (W9.alloc (.cells #[.int .i64 (((writeL S).length:Int))] 3)) (some ⟨W9.heap.size,0,none⟩) 1 1 ([((writeL S).length:Int)]:List Int)):=fun W9=>ints_of W9 ([((writeL S).length:Int)]:List Int) 3 (fun x hx=>(by
     simp only [List.mem_cons,List.mem_nil_iff,or_false] at hx;subst hx;omega)) (by simp)
    have pHI1:Hid (∀ x ∈ ([((writeL S).length:Int)]:List Int),0 <= x):=fun x hx=>by
     simp only [List.mem_cons,List.mem_nil_iff,or_false] at hx;subst hx;omega
    have sHI1:(smlI ([((writeL S).length:Int)]:List Int)).length <= 10:=smlI_le (m:=1) (fun x hx=>((HI1.out W0).rng x hx).2) (by simp);have hs0:=trivial
    go_wp2_with (first
     | (have hgo:=hs2;clear hgo;at_builtin;refine wpList_jl (by rfl) _ _ (by rfl) L2.out (by rfl) (Kept.refl _ _) (by rfl) (M1.out.by (writeL_lt S)) (fun e=>(M1.out.nil e).2) (by omega) ?_;intro a3 c3 v3 hl hkr hoff;have L3:=Hid.mk' hl;have hkv3:=hl.kept;clear hl hkr hoff hs2)
     | (have hgo:=hd2;clear hgo;at_builtin;refine wpList_jl (by rfl) _ _ (by rfl) L0.out (by rfl) (K1.out.tr K2.out) (by rfl) (M2.out.by (smlI_lt _)) (fun e=>(M2.out.nil e).2) (by omega) ?_;intro a2 c2 v2 hl hkr hoff;have L2:=Hid.mk' hl;have hkv2:=hl.kept;have hm1b:=(M1.out.kept K2.out).keptR hkr (fun i hi=>(fun e=>by have h1:=(M1.out.lt i hi).1;have h2:=(L0.out.mine.lt i e.symm).2;omega));clear M1;have M1:=Hid.mk' hm1b;have hs2:=trivial;clear hl hkr hoff hd2 hm1b)
     | (have hgo:=hs1;clear hgo;go_at_call 42;refine (rl6 (Kept.alloc _ _ _ _ _) (HI1.out w3) pHI1.out (by omega)).mono ?_;rintro e x2 ⟨b2,d2,rfl,hm,hk⟩;have M2:=Hid.mk' hm;have K2:=Hid.mk' hk;have hkx2:Kept W0 x2 none:=(hkw.tr K1.out).tr hk;have hd2:=trivial;clear hm hk hs1)
     | (go_at_call 43;refine HCW.out.mono ?_;rintro e w3 ⟨b1,d1,rfl,hm3,hk3⟩;have M1:=Hid.mk' hm3;have K1:=Hid.mk' hk3;have hs1:=trivial;have hkx1:Kept W0 w3 none:=hkw.tr hk3;clear hm3 hk3))
    go_roundw
    case rel=>exact ⟨k + 1,by omega,by go_num,a3,_,c3,rfl,L3.out.at0 (by rw [HST.out]) rfl (by omega)⟩
    case measure=>simp [intOf];omega
  . have hkk:k=N.sites.length:=by omega
    subst hkk
    have HI2:Hid (∀ W9:World,Ints (W9.alloc (.cells #[.int .i64 ((N.subs.length:Int))] 3)) (some ⟨W9.heap.size,0,none⟩) 1 1 ([(N.subs.length:Int)]:List Int)):=fun W9=>ints_of W9 ([(N.subs.length:Int)]:List Int) 3 (fun x hx=>(by
     simp only [List.mem_cons,List.mem_nil_iff,or_false] at hx;subst hx;omega)) (by simp)
    have pHI2:Hid (∀ x ∈ ([(N.subs.length:Int)]:List Int),0 <= x):=fun x hx=>by
     simp only [List.mem_cons,List.mem_nil_iff,or_false] at hx;subst hx;omega
    have sHI2:(smlI ([(N.subs.length:Int)]:List Int)).length <= 10:=smlI_le (m:=1) (fun x hx=>((HI2.out W0).rng x hx).2) (by simp);have hs0:=trivial;go_wp2_with (first | (have hgo:=hd1;clear hgo;at_builtin;refine wpList_jl (by rfl) _ _ (by rfl) L0.out (by rfl) K1.out (by rfl) (M1.out.by (smlI_lt _)) (fun e=>(M1.out.nil e).2) (by omega) ?_;intro a1 c1 v1 hl hkr hoff;have L1:=Hid.mk' hl;have hkv1:=hl.kept;have hz1:=hkr.size;have hs1:=trivial;clear hl hkr hoff hd1) | (have hgo:=hs0;clear hgo;go_at_call 42;refine (rl6 (Kept.alloc _ _ _ _ _) (HI2.out wr) pHI2.out (by omega)).mono ?_;rintro e x1 ⟨b1,d1,rfl,hm,hk⟩;have M1:=Hid.mk' hm;have K1:=Hid.mk' hk;have hd1:=trivial;clear hm hk hs0));have HL:Hid (Lsb W0 v1 a1 (n0 + (smlI [(N.subs.length:Int)]).length) c1 (nuI N 0) 66740):=L1.out.at0 (by simp [nuI]) rfl (by omega);clear L0 L1 M1 K1 HI2 pHI2 hkv1 hkw hs1 hle;go_loopw [3,7] (fun s i wr=>∃ k:Nat,k <= N.subs.length /\ i=.int .i64 k /\ ∃ a1 n1 c1,s=.slice a1 n1 c1 /\ Lsb W0 wr a1 n1 c1 (nuI N k) (66750 + 150 * k)) (fun _ i _=>N.subs.length - (intOf i).toNat)
    case atStart=>exact ⟨0,Nat.zero_le _,rfl,_,_,_,rfl,HL.out.at0 rfl rfl (by omega)⟩
    case round =>
     clear HL sHI2;obtain ⟨k,hk,rfl,a0,n0,c0,rfl,hL⟩:=hrel;have hle:=hL.le;have hkw:=hL.kept;have L0:=Hid.mk' hL;clear hL;by_cases hlt:k < N.subs.length
     . obtain ⟨ub,uo,eu,_,hc⟩:=(HN.out.kept hkw).u1.at_ (by omega);dsimp only at eu;subst eu;have e0:wr.cell? ⟨ub,uo + k * 2,none⟩=some (.slice (r k).1 (N.subs.getD k u0).sites.length (r k).2):=hc k hlt 0 (by omega);have e1:wr.cell? ⟨ub,uo + k * 2 + 1,none⟩=some (.int .i64 (N.subs.getD k u0).critical):=hc k hlt 1 (by omega);have HI:=Hid.mk' (HN.out.u2 k hlt);obtain ⟨hu1,hu2,hu3,hu4⟩:=HPO.out.su k hlt;have HST:=Hid.mk' (nuI_succ hlt);dsimp only at HI;generalize N.subs.getD k u0=U at *;generalize r k=rp at *;obtain ⟨ra,rc⟩:=rp;dsimp only at *;have hkA:Kept wr (wr.alloc (.cells #[.slice ra U.sites.length rc,.int .i64 U.critical] 52)) none:=Kept.alloc _ _ _ _ _;have hwz:(wr.alloc (.cells #[.slice ra U.sites.length rc,.int .i64 U.critical] 52)).heap.size=wr.heap.size + 1:=World.size_alloc _ _;have g0:(wr.alloc (.cells #[.slice ra U.sites.length rc,.int .i64 U.critical] 52)).cell? ⟨wr.heap.size,0,none⟩=some (.slice ra U.sites.length rc):=by simp [World.cell?_alloc_mark]
       have g1:(wr.alloc (.cells #[.slice ra U.sites.length rc,.int .i64 U.critical] 52)).cell? ⟨wr.heap.size,1,none⟩=some (.int .i64 U.critical):=by simp [World.cell?_alloc_mark]
       have hof0:some wr.heap.size ≠ (Value.slice a0 n0 c0).ownBlock:=ne_own L0.out.mine (.inr (Nat.le_refl _));have hss:=smlI_le (m:=12) (fun x hx=>(HI.out.rng x hx).2) hu1;have HPS:Hid (∀ x ∈ U.sites,0 <= x):=fun x hx=>(hu2 x hx).1
       obtain ⟨WB,hWB⟩:∃ WB,wr.alloc (.cells #[.slice ra U.sites.length rc,.int .i64 U.critical] 52)=WB:=⟨_,rfl⟩
       rw [hWB] at hkA hwz g0 g1;have LB:Hid (Lsb W0 WB a0 n0 c0 (nuI N k) (66750 + 150 * k)):=⟨L0.out.mine.kept hkA,L0.out.size,L0.out.le,hkw.tr hkA⟩;have hkB:Kept W0 WB none:=hkw.tr hkA;have hzb:wr.heap.size < WB.heap.size:=by omega
       have OF0:=Hid.mk' hof0;have G0:=Hid.mk' g0;have G1:=Hid.mk' g1;clear hc hu2 hkA hwz hof0
       have HI3:Hid (∀ W9:World,Ints (W9.alloc (.cells #[.int .i64 ((U.sites.length:Int))] 3)) (some ⟨W9.heap.size,0,none⟩) 1 1 ([(U.sites.length:Int)]:List Int)):=fun W9=>ints_of W9 ([(U.sites.length:Int)]:List Int) 3 (fun x hx=>(by
        simp only [List.mem_cons,List.mem_nil_iff,or_false] at hx;subst hx;omega)) (by simp)
       have pHI3:Hid (∀ x ∈ ([(U.sites.length:Int)]:List Int),0 <= x):=fun x hx=>by
        simp only [List.mem_cons,List.mem_nil_iff,or_false] at hx;subst hx;omega
       have sHI3:(smlI ([(U.sites.length:Int)]:List Int)).length <= 10:=smlI_le (m:=1) (fun x hx=>((HI3.out W0).rng x hx).2) (by simp)
       have HI4:Hid (∀ W9:World,Ints (W9.alloc (.cells #[.int .i64 (U.critical)] 3)) (some ⟨W9.heap.size,0,none⟩) 1 1 ([U.critical]:List Int)):=fun W9=>ints_of W9 ([U.critical]:List Int) 3 (fun x hx=>(by
        simp only [List.mem_cons,List.mem_nil_iff,or_false] at hx;subst hx;omega)) (by simp)
       have pHI4:Hid (∀ x ∈ ([U.critical]:List Int),0 <= x):=fun x hx=>by
        simp only [List.mem_cons,List.mem_nil_iff,or_false] at hx;subst hx;omega
       have sHI4:(smlI ([U.critical]:List Int)).length <= 10:=smlI_le (m:=1) (fun x hx=>((HI4.out W0).rng x hx).2) (by simp);have hs0:=trivial;go_wp2_with (first | rw [hWB] | (have hgo:=hd3;clear hgo;at_builtin;refine wpList_jl (by rfl) _ _ (by rfl) L2.out (by rfl) K3.out (by rfl) (M3.out.by (smlI_lt _)) (fun e=>(M3.out.nil e).2) (by omega) ?_;intro a3 c3 v3 hl hkr hoff;have L3:=Hid.mk' hl;have hkv3:=hl.kept;have hs3:=trivial;clear hl hkr hoff hd3) | (have hgo:=hs2;clear hgo;go_at_call 42;refine (rl6 (Kept.alloc _ _ _ _ _) (HI4.out v2) pHI4.out (by omega)).mono ?_;rintro e x3 ⟨b3,d3,rfl,hm,hk⟩;have M3:=Hid.mk' hm;have K3:=Hid.mk' hk;have hd3:=trivial;clear hm hk hs2) | (have hgo:=hd2;clear hgo;at_builtin;refine wpList_jl (by rfl) _ _ (by rfl) L1.out (by rfl) K2.out (by rfl) (M2.out.by (smlI_lt _)) (fun e=>(M2.out.nil e).2) (by omega) ?_;intro a2 c2 v2 hl hkr hoff;have L2:=Hid.mk' hl;have hkv2:=hl.kept;have q1_2:=cell_keptR (cell_kept0 q1_1 K2.out) hkr hof1;have hs2:=trivial;clear hl hkr hoff hd2) | (have hgo:=hs1;clear hgo;go_at_call 42;refine (rl6 (Kept.refl _ _) (HI.out.kept hkv1) HPS.out (by omega)).mono ?_;rintro e x2 ⟨b2,d2,rfl,hm,hk⟩;have M2:=Hid.mk' hm;have K2:=Hid.mk' hk;have hd2:=trivial;clear hm hk hs1) | (have hgo:=hd1;clear hgo;at_builtin;refine wpList_jl (by rfl) _ _ (by rfl) LB.out (by rfl) K1.out (by rfl) (M1.out.by (smlI_lt _)) (fun e=>(M1.out.nil e).2) (by omega) ?_;intro a1 c1 v1 hl hkr hoff;have L1:=Hid.mk' hl;have hkv1:=hl.kept;have hof1:=hoff _ (Nat.lt_of_lt_of_le hzb K1.out.size) OF0.out;have q0_1:=cell_keptR (cell_kept0 G0.out K1.out) hkr OF0.out;have q1_1:=cell_keptR (cell_kept0 G1.out K1.out) hkr OF0.out;have hz1:=hkr.size;have hs1:=trivial;clear hl hkr hoff hd1) | (have hgo:=hs0;clear hgo;go_at_call 42;refine (rl6 (Kept.alloc _ _ _ _ _) (HI3.out WB) pHI3.out (by omega)).mono ?_;rintro e x1 ⟨b1,d1,rfl,hm,hk⟩;have M1:=Hid.mk' hm;have K1:=Hid.mk' hk;have hd1:=trivial;clear hm hk hs0));go_roundw
       case rel=>exact ⟨k + 1,by omega,by go_num,a3,_,c3,rfl,L3.out.at0 (by rw [HST.out]) rfl (by omega)⟩
       case measure=>simp [intOf];omega
     . have hkk:k=N.subs.length:=by omega
       subst hkk
       have HI5:Hid (∀ W9:World,Ints (W9.alloc (.cells #[.int .i64 (N.low),.int .i64 (N.high),.int .i64 (N.step),.int .i64 ((N.weds.length:Int))] 3)) (some ⟨W9.heap.size,0,none⟩) 4 4 ([N.low,N.high,N.step,(N.weds.length:Int)]:List Int)):=fun W9=>ints_of W9 ([N.low,N.high,N.step,(N.weds.length:Int)]:List Int) 3 (fun x hx=>(by
        simp only [List.mem_cons,List.mem_nil_iff,or_false] at hx;rcases hx with rfl | rfl | rfl | rfl <;> omega)) (by simp)
       have pHI5:Hid (∀ x ∈ ([N.low,N.high,N.step,(N.weds.length:Int)]:List Int),0 <= x):=fun x hx=>by
        simp only [List.mem_cons,List.mem_nil_iff,or_false] at hx;rcases hx with rfl | rfl | rfl | rfl <;> omega
       have sHI5:(smlI ([N.low,N.high,N.step,(N.weds.length:Int)]:List Int)).length <= 40:=smlI_le (m:=4) (fun x hx=>((HI5.out W0).rng x hx).2) (by simp);have hs0:=trivial;go_wp2_with (first | (have hgo:=hd1;clear hgo;at_builtin;refine wpList_jl (by rfl) _ _ (by rfl) L0.out (by rfl) K1.out (by rfl) (M1.out.by (smlI_lt _)) (fun e=>(M1.out.nil e).2) (by omega) ?_;intro a1 c1 v1 hl hkr hoff;have L1:=Hid.mk' hl;have hkv1:=hl.kept;have hz1:=hkr.size;have hs1:=trivial;clear hl hkr hoff hd1) | (have hgo:=hs0;clear hgo;go_at_call 42;refine (rl6 (Kept.alloc _ _ _ _ _) (HI5.out wr) pHI5.out (by omega)).mono ?_;rintro e x1 ⟨b1,d1,rfl,hm,hk⟩;have M1:=Hid.mk' hm;have K1:=Hid.mk' hk;have hd1:=trivial;clear hm hk hs0));have HL:Hid (Lsb W0 v1 a1 (n0 + (smlI [N.low,N.high,N.step,(N.weds.length:Int)]).length) c1 (nwI N 0) 67800):=L1.out.at0 (by simp [nwI]) rfl (by omega);clear L0 L1 M1 K1 HI5 pHI5 hkv1 hkw hs1 hle;go_loopw [3,9] (fun s i wr=>∃ k:Nat,k <= N.weds.length /\ i=.int .i64 k /\ ∃ a1 n1 c1,s=.slice a1 n1 c1 /\ Lsb W0 wr a1 n1 c1 (nwI N k) (67800 + 120 * k)) (fun _ i _=>N.weds.length - (intOf i).toNat)
       case atStart=>exact ⟨0,Nat.zero_le _,rfl,_,_,_,rfl,HL.out.at0 rfl rfl (by omega)⟩
       case round =>
        clear HL sHI5;obtain ⟨k,hk,rfl,a0,n0,c0,rfl,hL⟩:=hrel;have hle:=hL.le;have hkw:=hL.kept;have L0:=Hid.mk' hL;clear hL;by_cases hlt:k < N.weds.length
        . obtain ⟨db,do_,ed,_,hc⟩:=(HN.out.kept hkw).d1.at_ (by omega);dsimp only at ed;subst ed;have e0:wr.cell? ⟨db,do_ + k * 4,none⟩=some (.int .i64 (N.weds.getD k d0).a):=hc k hlt 0 (by omega);have e1:wr.cell? ⟨db,do_ + k * 4 + 1,none⟩=some (.int .i64 (N.weds.getD k d0).b):=hc k hlt 1 (by omega);have e2:wr.cell? ⟨db,do_ + k * 4 + 2,none⟩=some (.int .i64 (N.weds.getD k d0).votes):=hc k hlt 2 (by omega);have e3:wr.cell? ⟨db,do_ + k * 4 + 3,none⟩=some (.slice (t k).1 (N.weds.getD k d0).offsets.length (t k).2):=hc k hlt 3 (by omega);have HI:=Hid.mk' (HN.out.d2 k hlt);obtain ⟨hd1,hd2,hd3,hd4,hd5⟩:=HPO.out.we k hlt;have HST:=Hid.mk' (nwI_succ hlt);dsimp only at HI;generalize N.weds.getD k d0=D at *;generalize t k=tp at *;obtain ⟨ta,tc⟩:=tp;dsimp only at *;have hkA:Kept wr (wr.alloc (.cells #[.int .i64 D.a,.int .i64 D.b,.int .i64 D.votes,.slice ta D.offsets.length tc] 54)) none:=Kept.alloc _ _ _ _ _;have hwz:(wr.alloc (.cells #[.int .i64 D.a,.int .i64 D.b,.int .i64 D.votes,.slice ta D.offsets.length tc] 54)).heap.size=wr.heap.size + 1:=World.size_alloc _ _;have g0:(wr.alloc (.cells #[.int .i64 D.a,.int .i64 D.b,.int .i64 D.votes,.slice ta D.offsets.length tc] 54)).cell? ⟨wr.heap.size,0,none⟩=some (.int .i64 D.a):=by simp [World.cell?_alloc_mark]
          have g1:(wr.alloc (.cells #[.int .i64 D.a,.int .i64 D.b,.int .i64 D.votes,.slice ta D.offsets.length tc] 54)).cell? ⟨wr.heap.size,1,none⟩=some (.int .i64 D.b):=by simp [World.cell?_alloc_mark]
          have g2:(wr.alloc (.cells #[.int .i64 D.a,.int .i64 D.b,.int .i64 D.votes,.slice ta D.offsets.length tc] 54)).cell? ⟨wr.heap.size,2,none⟩=some (.int .i64 D.votes):=by simp [World.cell?_alloc_mark]
          have g3:(wr.alloc (.cells #[.int .i64 D.a,.int .i64 D.b,.int .i64 D.votes,.slice ta D.offsets.length tc] 54)).cell? ⟨wr.heap.size,3,none⟩=some (.slice ta D.offsets.length tc):=by simp [World.cell?_alloc_mark]
          have hof0:some wr.heap.size ≠ (Value.slice a0 n0 c0).ownBlock:=ne_own L0.out.mine (.inr (Nat.le_refl _));have hss:=smlI_le (m:=8) (fun x hx=>(HI.out.rng x hx).2) hd4;have HPS:Hid (∀ x ∈ D.offsets,0 <= x):=fun x hx=>(hd5 x hx).1
          obtain ⟨WB,hWB⟩:∃ WB,wr.alloc (.cells #[.int .i64 D.a,.int .i64 D.b,.int .i64 D.votes,.slice ta D.offsets.length tc] 54)=WB:=⟨_,rfl⟩
          rw [hWB] at hkA hwz g0 g1 g2 g3;have LB:Hid (Lsb W0 WB a0 n0 c0 (nwI N k) (67800 + 120 * k)):=⟨L0.out.mine.kept hkA,L0.out.size,L0.out.le,hkw.tr hkA⟩;have hkB:Kept W0 WB none:=hkw.tr hkA;have hzb:wr.heap.size < WB.heap.size:=by omega
          have OF0:=Hid.mk' hof0;have G3:=Hid.mk' g3;clear hc hd5 hkA hwz hof0
          have HI6:Hid (∀ W9:World,Ints (W9.alloc (.cells #[.int .i64 (D.a),.int .i64 (D.b),.int .i64 (D.votes),.int .i64 ((D.offsets.length:Int))] 3)) (some ⟨W9.heap.size,0,none⟩) 4 4 ([D.a,D.b,D.votes,(D.offsets.length:Int)]:List Int)):=fun W9=>ints_of W9 ([D.a,D.b,D.votes,(D.offsets.length:Int)]:List Int) 3 (fun x hx=>(by
           simp only [List.mem_cons,List.mem_nil_iff,or_false] at hx;rcases hx with rfl | rfl | rfl | rfl <;> omega)) (by simp)
          have pHI6:Hid (∀ x ∈ ([D.a,D.b,D.votes,(D.offsets.length:Int)]:List Int),0 <= x):=fun x hx=>by
           simp only [List.mem_cons,List.mem_nil_iff,or_false] at hx;rcases hx with rfl | rfl | rfl | rfl <;> omega
          have sHI6:(smlI ([D.a,D.b,D.votes,(D.offsets.length:Int)]:List Int)).length <= 40:=smlI_le (m:=4) (fun x hx=>((HI6.out W0).rng x hx).2) (by simp);have hs0:=trivial;go_wp2_with (first | rw [hWB] | (have hgo:=hd2;clear hgo;at_builtin;refine wpList_jl (by rfl) _ _ (by rfl) L1.out (by rfl) K2.out (by rfl) (M2.out.by (smlI_lt _)) (fun e=>(M2.out.nil e).2) (by omega) ?_;intro a2 c2 v2 hl hkr hoff;have L2:=Hid.mk' hl;have hkv2:=hl.kept;have hs2:=trivial;clear hl hkr hoff hd2) | (have hgo:=hs1;clear hgo;go_at_call 42;refine (rl6 (Kept.refl _ _) (HI.out.kept hkv1) HPS.out (by omega)).mono ?_;rintro e x2 ⟨b2,d2,rfl,hm,hk⟩;have M2:=Hid.mk' hm;have K2:=Hid.mk' hk;have hd2:=trivial;clear hm hk hs1) | (have hgo:=hd1;clear hgo;at_builtin;refine wpList_jl (by rfl) _ _ (by rfl) LB.out (by rfl) K1.out (by rfl) (M1.out.by (smlI_lt _)) (fun e=>(M1.out.nil e).2) (by omega) ?_;intro a1 c1 v1 hl hkr hoff;have L1:=Hid.mk' hl;have hkv1:=hl.kept;have hof1:=hoff _ (Nat.lt_of_lt_of_le hzb K1.out.size) OF0.out;have q3_1:=cell_keptR (cell_kept0 G3.out K1.out) hkr OF0.out;have hz1:=hkr.size;have hs1:=trivial;clear hl hkr hoff hd1) | (have hgo:=hs0;clear hgo;go_at_call 42;refine (rl6 (Kept.alloc _ _ _ _ _) (HI6.out WB) pHI6.out (by omega)).mono ?_;rintro e x1 ⟨b1,d1,rfl,hm,hk⟩;have M1:=Hid.mk' hm;have K1:=Hid.mk' hk;have hd1:=trivial;clear hm hk hs0));go_roundw
          case rel=>exact ⟨k + 1,by omega,by go_num,a2,_,c2,rfl,L2.out.at0 (by rw [HST.out]) rfl (by omega)⟩
          case measure=>simp [intOf];omega
        . have hkk:k=N.weds.length:=by omega
          subst hkk;have HQ:Hid (n0=(netL N).length):=L0.out.size;have hw0:=HSZ.out;go_wp2;go_ret;exact ⟨a0,c0,by rw [HQ.out];rfl,by rw [<- HQ.out];exact L0.out.mine.lower (by omega),HK0.out.tr hkw,by rw [<- HQ.out];omega⟩
end Go.Proofs.YtakilpnbjihibaaGreatDoor
