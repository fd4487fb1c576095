import Derived.Test.YtakilpnbjihibaaGreatDoorP5
namespace Go.Proofs.YtakilpnbjihibaaGreatDoor
set_option linter.unusedVariables false
set_option linter.unusedSimpArgs false
set_option maxHeartbeats 8000000
set_option maxRecDepth 100000
section
open Go.RowKit Go.Lib Go.Deep
def rtakeF (N:Nt) (l:List Int) (s:List Int):Nat -> Option (List Int)
 | 0=>some s
 | k + 1=>match rtakeF N l s k with
  | none=>none
  | some s'=>if inB (l.getD k 0) 0 ((N.sites.length:Int) - 1)=true /\ l.getD k 0 ∉ s' then some (s' ++ [l.getD k 0]) else none
def rsubsF (N:Nt):Nat -> Option (List Int)
 | 0=>some []
 | k + 1=>match rsubsF N k with
  | none=>none
  | some s=>match rtakeF N (N.subs.getD k u0).sites s (N.subs.getD k u0).sites.length with
   | none=>none
   | some s'=>if (N.subs.getD k u0).critical ∈ (N.subs.getD k u0).sites then some s' else none
def rsubsB (N:Nt):Bool:=inB N.subs.length 1 6 && (match rsubsF N N.subs.length with
 | none=>false
 | some s=>decide (s.length=N.sites.length))
def rwedB (N:Nt) (i:Nat):Bool:=decide (0 <= (N.weds.getD i d0).a) && (decide ((N.weds.getD i d0).a < (N.weds.getD i d0).b) && (decide ((N.weds.getD i d0).b < (N.subs.length:Int)) && (timeB (N.weds.getD i d0).votes && (offsetsB N (N.weds.getD i d0).offsets && allB i (fun k=>!(decide ((N.weds.getD k d0).a=(N.weds.getD i d0).a) && decide ((N.weds.getD k d0).b=(N.weds.getD i d0).b)))))))
def rwedsB (N:Nt):Bool:=decide (N.weds.length <= 8) && allB N.weds.length (rwedB N)
def rsiteB (N:Nt) (i:Nat):Bool:=siteB (N.sites.getD i s0) && (decide ((N.sites.getD i s0).low <= N.low) && (decide (N.high <= (N.sites.getD i s0).high) && allB i (fun k=>!decide ((N.sites.getD k s0).id=(N.sites.getD i s0).id))))
def rownB (N:Nt):Bool:=inB N.sites.length 1 12 && (timeB N.low && (inB N.high N.low 1048576 && (timeB N.step && (decide ((N.high - N.low) % N.step=0) && decide ((N.high - N.low) / N.step <= 64)))))
def rnetB (N:Nt):Bool:=rownB N && (allB N.sites.length (rsiteB N) && (rsubsB N && rwedsB N))
end
section
open Go.RowKit Go.Lib Go.Deep Go.Maps
theorem subsF_many {N:Nt} {M:Ms}:∀ k M',subsF N M k=some M' -> M'.length + manyP N M=M.length + manyP N M'
 | 0,M',h=>by injection h with h;subst h;rfl
 | k + 1,M',h=>by
  rw [subsF] at h
  cases h1:subsF N M k with
  | none=>rw [h1] at h;cases h
  | some M1 =>
   rw [h1] at h;simp only at h
   cases h2:takeF N k (N.subs.getD k u0).sites M1 (N.subs.getD k u0).sites.length with
   | none=>rw [h2] at h;cases h
   | some M2 =>
    rw [h2] at h;simp only at h;split at h
    . injection h with h;subst h;have i1:=subsF_many k M1 h1;have i2:=takeF_many _ _ h2;omega
    . cases h
def subsP (N:Nt) (M:Ms):Option Ms:=match subsF N M N.subs.length with
 | none=>none
 | some M'=>if placedB N M'=true then some M' else none
theorem subs_net {w:World} {B:Nat} {Y:Na} {N:Nt} {M:Ms} (h:Far w B Y N) (hM:Marks w B M) (hn12:N.sites.length <= 12) (hl:M.length <= 100) (hs1:1 <= N.subs.length):Calls Tryz.prog 58 #[netV Y N,.map (some B)] w fun e w'=>HoldP (subsP N M) w B e w':=by
 obtain ⟨ys,ysc,yu,yuc,yd,ydc,X,r,t⟩:=Y;have h0:=h.net w (Kept.refl _ _);have hsm:N.subs.length <= 9223372036854775807:=by have:=h0.uk.room;have:=h0.uk.max;omega
 obtain ⟨ub,uo,eu,_,_⟩:=h0.u1.at_ (by omega);dsimp only at eu;subst eu;have hk:Kept w (w.alloc (.cells (cy9 ys ysc (some ⟨ub,uo,none⟩) yuc yd ydc N) 26)) none:=Kept.alloc _ _ _ _ _;have HK:=Hid.mk' (kept_any (r:=some B) hk);have HF:=Hid.mk' (h.kept (kept_any hk));have HM:=Hid.mk' (hM.kept hk (by simp));have hBn:=hM.lt;have hcs:∀ j v,(cy9 ys ysc (some ⟨ub,uo,none⟩) yuc yd ydc N)[j]? = some v -> ∀ w',Kept (w.alloc (.cells (cy9 ys ysc (some ⟨ub,uo,none⟩) yuc yd ydc N) 26)) w' (some B) -> w'.cell? ⟨w.heap.size,j,none⟩=some v:=fun j v hv w' q=>(World.cell?_of_block (w:=(w.alloc (.cells (cy9 ys ysc (some ⟨ub,uo,none⟩) yuc yd ydc N) 26))) (a:=⟨w.heap.size,j,none⟩) (q.block w.heap.size (by simp) (fun e=>by injection e with e;omega))).trans (by simp only [World.cell?_alloc_mark];exact hv)
 have HC:Hid (∀ w',Kept (w.alloc (.cells (cy9 ys ysc (some ⟨ub,uo,none⟩) yuc yd ydc N) 26)) w' (some B) -> w'.cell? ⟨w.heap.size,0,none⟩=some (.slice ys N.sites.length ysc) /\ w'.cell? ⟨w.heap.size,1,none⟩=some (.slice (some ⟨ub,uo,none⟩) N.subs.length yuc) /\ w'.cell? ⟨w.heap.size,2,none⟩=some (.slice yd N.weds.length ydc) /\ w'.cell? ⟨w.heap.size,3,none⟩=some (.int .i64 N.low) /\ w'.cell? ⟨w.heap.size,4,none⟩=some (.int .i64 N.high) /\ w'.cell? ⟨w.heap.size,5,none⟩=some (.int .i64 N.step)):=fun w' q=>⟨hcs 0 _ rfl w' q,hcs 1 _ rfl w' q,hcs 2 _ rfl w' q,hcs 3 _ rfl w' q,hcs 4 _ rfl w' q,hcs 5 _ rfl w' q⟩
 clear h hM hk h0 hcs;go_enter Tryz.func58,Tryz.ntmps58;go_wp2;generalize hW:(w.alloc (.cells (cy9 ys ysc (some ⟨ub,uo,none⟩) yuc yd ydc N) 26))=W at *;clear hW;go_loopw [12] (fun i wr=>∃ (k:Nat) (M':Ms),k <= N.subs.length /\ i=.int .i64 k /\ Hid (subsF N M k=some M') /\ Hid (Marks wr B M') /\ Hid (Kept W wr (some B))) (fun i _=>N.subs.length - (intOf i).toNat)
 case atStart=>exact ⟨0,M,Nat.zero_le _,rfl,rfl,HM,Kept.refl _ _⟩
 case round =>
  clear HM;obtain ⟨k,M',hk,rfl,HS,HMr,KR⟩:=hrel;obtain ⟨n0,n1,n2,n3,n4,n5⟩:=HC.out _ KR.out
  have hml:M'.length <= 500:=by
   have h1:=subsF_many k M' HS.out;have h2:=manyP_le N M';omega
  by_cases hlt:k < N.subs.length
  . have hu:=(HF.out.net _ KR.out).u1;obtain ⟨ub',uo',eu,_,hc⟩:=hu.at_ (by omega);dsimp only at eu;injection eu with eu;injection eu with eu1 eu2;subst eu1 eu2;have e0:wr.cell? ⟨ub,uo + k * 2,none⟩=some (.slice (r k).1 (N.subs.getD k u0).sites.length (r k).2):=hc k hlt 0 (by omega);have e1:wr.cell? ⟨ub,uo + k * 2 + 1,none⟩=some (.int .i64 (N.subs.getD k u0).critical):=hc k hlt 1 (by omega);have hcr:i64B (N.subs.getD k u0).critical:=(HF.out.net _ KR.out).ur _ (getD_mem hlt)
    have HNX:Hid (subsF N M (k + 1)=none -> subsP N M=none):=fun q=>by
     show subsP N M=none
     unfold subsP;rw [subsF_none q _ (by omega)]
    have HRec:Hid (subsF N M (k + 1)=(match takeF N k (N.subs.getD k u0).sites M' (N.subs.getD k u0).sites.length with
     | none=>none
     | some M''=>if mkF M'' (1,(N.subs.getD k u0).critical,0)=some (k:Int) then some M'' else none)):=by
     show subsF N M (k + 1)=_
     rw [subsF,HS.out]
     all_goals (simp only;cases takeF N k (N.subs.getD k u0).sites M' (N.subs.getD k u0).sites.length <;> rfl)
    generalize hU:N.subs.getD k u0=U at *;have HU:=Hid.mk' hU;clear hU hu hc;generalize r k=rp at *;obtain ⟨ra,rc⟩:=rp;dsimp only at *;have hkA:Kept wr (wr.alloc (.cells #[.slice ra U.sites.length rc,.int .i64 U.critical] 52)) none:=Kept.alloc _ _ _ _ _;have HKA:=Hid.mk' (KR.out.tr (kept_any hkA));have HMA:=Hid.mk' (HMr.out.kept hkA (by simp));have hb1:(wr.alloc (.cells #[.slice ra U.sites.length rc,.int .i64 U.critical] 52)).cell? ⟨wr.heap.size,1,none⟩=some (.int .i64 U.critical):=by simp [World.cell?_alloc_mark]
    have hBr:=HMr.out.lt;have HC1:Hid (∀ w',Kept (wr.alloc (.cells #[.slice ra U.sites.length rc,.int .i64 U.critical] 52)) w' (some B) -> w'.cell? ⟨wr.heap.size,1,none⟩=some (.int .i64 U.critical)):=fun w' q=>(World.cell?_of_block (w:=(wr.alloc (.cells #[.slice ra U.sites.length rc,.int .i64 U.critical] 52))) (a:=⟨wr.heap.size,1,none⟩) (q.block wr.heap.size (by simp) (fun e=>by injection e with e;omega))).trans hb1
    have hmk:mkR (1,U.critical,0):=⟨by show i64B 1;unfold i64B;omega,hcr,i64_zero⟩;have HKY:=Hid.mk' (mk_key hmk);obtain ⟨m0,m1,m2,m3,m4,m5⟩:=HC.out _ HKA.out;have hwl:w.heap.size < wr.heap.size:=block_lt n0;clear hkA hb1 hcr HMr HS
    cases htk:takeF N k U.sites M' U.sites.length with
    | none =>
     have HTK:=Hid.mk' htk;have HE:=Hid.mk' (HNX.out (by rw [HRec.out,htk]));clear htk;go_wp2_with (go_at_call 82;have hn:=take_net (HF.out.kept HKA.out) HMA.out hn12 hml k hlt;rw [HU.out,HTK.out] at hn;refine hn.mono ?_;rintro e w4 ⟨rfl,hk4⟩;have c1:=HC1.out _ hk4);go_ret;exact HoldP.no HE.out (HK.out.tr (HKA.out.tr hk4))
    | some M4 =>
     have HTK:=Hid.mk' htk;have hal:mkAll M4 \/ True:=.inr trivial
     cases hf:mkF M4 (1,U.critical,0) with
     | none =>
      have HE:=Hid.mk' (HNX.out (by rw [HRec.out,htk];simp [hf]));clear htk
      go_wp2_with (first
       | (have hgo:=HM4;clear hgo;at_lookup;refine wpList_lookup_own_ok_int _ rfl _ _ 82 rfl 130 3 .i64 Tryz.lawMk Tryz.uMks Tryz.uMi (Tryz.zeroMi _) B _ _ rfl HM4.out.own _ _ rfl HKY.out ?_;intro x hat hwc;rw [hh])
       | (go_at_call 82;have hn:=take_net (HF.out.kept HKA.out) HMA.out hn12 hml k hlt;rw [HU.out,HTK.out] at hn;refine hn.mono ?_;rintro e w4 ⟨rfl,hm4,hk4⟩;have c1:=HC1.out _ hk4;have HM4:=Hid.mk' hm4;have hh:=mkD_has M4 hm4.all _ hmk;rw [hf] at hh;have hh:Maps.has (mkD M4) (mkL (1,U.critical,0))=false:=hh;clear hm4))
      go_ret;exact HoldP.no HE.out (HK.out.tr (HKA.out.tr hk4))
     | some v =>
      by_cases hv:v=(k:Int)
      . subst hv
        have HE:Hid (subsF N M (k + 1)=some M4):=by
         show subsF N M (k + 1)=some M4
         rw [HRec.out,htk];simp [hf]
        clear htk
        go_wp2_with (first
         | (have hgo:=HM4;clear hgo;at_lookup;refine wpList_lookup_own_ok_int _ rfl _ _ 82 rfl 130 3 .i64 Tryz.lawMk Tryz.uMks Tryz.uMi (Tryz.zeroMi _) B _ _ rfl HM4.out.own _ _ rfl HKY.out ?_;intro x hat hwc;rw [hh];have hxk:x=(k:Int):=(by have hz:=hat;rw [mkD_at M4 HM4.out.all _ hmk _ hf] at hz;simpa using hz.symm);subst hxk)
         | (go_at_call 82;have hn:=take_net (HF.out.kept HKA.out) HMA.out hn12 hml k hlt;rw [HU.out,HTK.out] at hn;refine hn.mono ?_;rintro e w4 ⟨rfl,hm4,hk4⟩;have c1:=HC1.out _ hk4;have HM4:=Hid.mk' hm4;have hh:=mkD_has M4 hm4.all _ hmk;rw [hf] at hh;have hh:Maps.has (mkD M4) (mkL (1,U.critical,0))=true:=hh;clear hm4))
        go_roundw
        case rel=>exact ⟨k + 1,M4,by omega,by go_num,HE,HM4,HKA.out.tr hk4⟩
        case measure=>simp [intOf];omega
      . have HE:=Hid.mk' (HNX.out (by rw [HRec.out,htk];simp [hf,hv]));clear htk
        go_wp2_with (first
         | (have hgo:=HM4;clear hgo;at_lookup;refine wpList_lookup_own_ok_int _ rfl _ _ 82 rfl 130 3 .i64 Tryz.lawMk Tryz.uMks Tryz.uMi (Tryz.zeroMi _) B _ _ rfl HM4.out.own _ _ rfl HKY.out ?_;intro x hat hwc;rw [hh];have hxk:x=v:=(by have hz:=hat;rw [mkD_at M4 HM4.out.all _ hmk _ hf] at hz;simpa using hz.symm);subst hxk)
         | (go_at_call 82;have hn:=take_net (HF.out.kept HKA.out) HMA.out hn12 hml k hlt;rw [HU.out,HTK.out] at hn;refine hn.mono ?_;rintro e w4 ⟨rfl,hm4,hk4⟩;have c1:=HC1.out _ hk4;have HM4:=Hid.mk' hm4;have hh:=mkD_has M4 hm4.all _ hmk;rw [hf] at hh;have hh:Maps.has (mkD M4) (mkL (1,U.critical,0))=true:=hh;clear hm4))
        go_ret;exact HoldP.no HE.out (HK.out.tr (HKA.out.tr hk4))
  . have e:k=N.subs.length:=by omega
    subst e
    have HP:Hid (subsP N M=if placedB N M'=true then some M' else none):=by
     show subsP N M=_
     unfold subsP;rw [HS.out]
    cases hpb:placedB N M' with
    | false =>
     go_wp2_with (go_at_call 83;have hn:=placed_net (Y:=⟨ys,ysc,some ⟨ub,uo,none⟩,yuc,yd,ydc,X,r,t⟩) HMr.out hn12;rw [hpb] at hn;refine hn.mono ?_;rintro e w4 ⟨rfl,hk4⟩);go_ret;exact HoldP.no (by rw [HP.out,hpb];rfl) (HK.out.tr (KR.out.tr (kept_any hk4)))
    | true =>
     go_wp2_with (go_at_call 83;have hn:=placed_net (Y:=⟨ys,ysc,some ⟨ub,uo,none⟩,yuc,yd,ydc,X,r,t⟩) HMr.out hn12;rw [hpb] at hn;refine hn.mono ?_;rintro e w4 ⟨rfl,hk4⟩);go_ret;exact HoldP.yes (by rw [HP.out,hpb];rfl) (HMr.out.kept hk4 (by simp)) (HK.out.tr (KR.out.tr (kept_any hk4)))
theorem ntime_any (n:Int) (w:World):Calls Tryz.prog 84 #[.int .i64 n] w fun e w'=>e=.returned (.bool (timeB n)) /\ w'=w:=by
 go_enter Tryz.func84,Tryz.ntmps84;go_wp2_with (go_at_call 80;refine (nwithin_any _ _ _ _).mono ?_;rintro e w9 ⟨rfl,rfl⟩);go_ret;exact ⟨rfl,rfl⟩
theorem ntime_is {n:Int} {b:Bool} {w:World} (h:timeB n=b):Calls Tryz.prog 84 #[.int .i64 n] w fun e w'=>e=.returned (.bool b) /\ w'=w:=by
 rw [<- h];exact ntime_any n w
theorem offsets_net {w:World} {Y:Na} {N:Nt} {a:Option Addr} {c:Nat} {l:List Int} (hI:Ints w a l.length c l) (hlo:1 <= N.low /\ N.low <= 1048576):Calls Tryz.prog 86 #[netV Y N,.slice a l.length c] w fun e w'=>e=.returned (.bool (offsetsB N l)) /\ Kept w w' none:=by
 obtain ⟨ys,ysc,yu,yuc,yd,ydc,X,r,t⟩:=Y;have hk:Kept w (w.alloc (.cells (cy9 ys ysc yu yuc yd ydc N) 26)) none:=Kept.alloc _ _ _ _ _;have HK:=Hid.mk' hk;have HI:=Hid.mk' (hI.kept hk);have hlm:l.length <= 9223372036854775807:=by have:=hI.cap.room;have:=hI.cap.max;omega
 have c3:(w.alloc (.cells (cy9 ys ysc yu yuc yd ydc N) 26)).cell? ⟨w.heap.size,3,none⟩=some (.int .i64 N.low):=by simp [World.cell?_alloc_mark]
 have hwr:IntKind.i64.wrap (N.low - 1)=N.low - 1:=wrap_in (by omega) (by omega);have HE0:Hid (offsetsB N l=(inB l.length 1 8 && allB l.length (fun i=>inB (l.getD i 0) 0 (N.low - 1)))):=rfl;clear hI hk;go_enter Tryz.func86,Tryz.ntmps86
 cases b1:inB l.length 1 8 with
 | false =>
  go_wp2_with (go_at_call 80;refine nwithin_isM (by assumption) ?_);go_ret;exact ⟨by rw [HE0.out,b1];rfl,HK.out⟩
 | true =>
  go_wp2_with (go_at_call 80;refine nwithin_isM (by assumption) ?_);generalize hW:(w.alloc (.cells (cy9 ys ysc yu yuc yd ydc N) 26))=W at *;clear hW;go_loopw [13] (fun i wr=>∃ (k:Nat),k <= l.length /\ i=.int .i64 k /\ Hid (∀ j,j < k -> inB (l.getD j 0) 0 (N.low - 1)=true) /\ wr=W) (fun i _=>l.length - (intOf i).toNat)
  case atStart=>exact ⟨0,Nat.zero_le _,rfl,(fun j hj=>by omega),rfl⟩
  case round =>
   obtain ⟨k,hk,rfl,HJ,rfl⟩:=hrel;by_cases hlt:k < l.length
   . obtain ⟨ab,ao,ea,_,hc⟩:=HI.out.at_ (by omega);subst ea;have hx:=hc k hlt;clear hc
     have HN:Hid (inB (l.getD k 0) 0 (N.low - 1)=false -> offsetsB N l=false):=fun q=>by
      show offsetsB N l=false
      rw [HE0.out,b1,allB_no hlt q];rfl
     obtain ⟨x,hxe⟩:∃ x,l.getD k 0=x:=⟨_,rfl⟩
     rw [hxe] at hx HN;have HXE:=Hid.mk' hxe;clear hxe
     cases hin:inB x 0 (N.low - 1) with
     | false =>
      have HE:=Hid.mk' (HN.out hin);go_wp2_with (go_at_call 80;refine nwithin_isM (by assumption) ?_);go_ret;exact ⟨by rw [HE.out];rfl,HK.out⟩
     | true =>
      go_wp2_with (go_at_call 80;refine nwithin_isM (by assumption) ?_);go_roundw
      case rel=>exact ⟨k + 1,by omega,by go_num,(fun j hj=>(by
       by_cases e:j=k
       . rw [e,HXE.out];exact hin
       . exact HJ.out j (by omega))),trivial⟩
      case measure=>simp [intOf];omega
   . have e:k=l.length:=by omega
     subst e
     have HE:Hid (offsetsB N l=true):=by
      show offsetsB N l=true
      rw [HE0.out,b1,allB_iff.2 HJ.out];rfl
     go_wp2;go_ret;exact ⟨by rw [HE.out];rfl,HK.out⟩
theorem steps_net {w:World} {Y:Na} {N:Nt} (h1:0 <= N.high - N.low) (h2:N.high - N.low <= 1048576) (h3:1 <= N.step):Calls Tryz.prog 85 #[netV Y N] w fun e w'=>e=.returned (.int .i64 ((N.high - N.low) / N.step)) /\ Kept w w' none:=by
 obtain ⟨ys,ysc,yu,yuc,yd,ydc,X,r,t⟩:=Y;have hk:Kept w (w.alloc (.cells (cy9 ys ysc yu yuc yd ydc N) 26)) none:=Kept.alloc _ _ _ _ _;have HK:=Hid.mk' hk;have hnz:(N.step == 0)=false:=by rw [beq_eq_false_iff_ne];omega
 have hnz1:¬ N.step=0:=by omega
 have hq0:0 <= (N.high - N.low) / N.step:=Int.ediv_nonneg h1 (by omega);have hq1:(N.high - N.low) / N.step <= N.high - N.low:=Int.ediv_le_self _ h1
 have HD:Hid (IntKind.i64.wrap ((N.high - N.low).tdiv N.step)=(N.high - N.low) / N.step):=by
  show IntKind.i64.wrap ((N.high - N.low).tdiv N.step)=(N.high - N.low) / N.step
  rw [Int.tdiv_eq_ediv_of_nonneg h1,wrap_in (by omega) (by omega)]
 have hwr:IntKind.i64.wrap (N.high - N.low)=N.high - N.low:=wrap_in (by omega) (by omega);clear hk hq0 hq1;go_enter Tryz.func85,Tryz.ntmps85;go_wp2;go_ret;exact ⟨ret_int (by first | exact HD.out | rfl),HK.out⟩
theorem cycles_net {w:World} {Y:Na} {N:Nt} (h:NetAt w Y N) (hn1:1 <= N.sites.length) (hn12:N.sites.length <= 12):Calls Tryz.prog 59 #[netV Y N] w fun e w'=>e=.returned (.bool (ncyclesB N)) /\ Kept w w' none:=by
 obtain ⟨ys,ysc,yu,yuc,yd,ydc,X,r,t⟩:=Y;obtain ⟨sb,so,es,_,_⟩:=h.s1.at_ (by omega);dsimp only at es;subst es;have hk:Kept w (w.alloc (.cells (cy9 (some ⟨sb,so,none⟩) ysc yu yuc yd ydc N) 26)) none:=Kept.alloc _ _ _ _ _;have HK:=Hid.mk' hk;have HN:=Hid.mk' (h.kept hk);have hcs:∀ j v,(cy9 (some ⟨sb,so,none⟩) ysc yu yuc yd ydc N)[j]? = some v -> ∀ w',Kept (w.alloc (.cells (cy9 (some ⟨sb,so,none⟩) ysc yu yuc yd ydc N) 26)) w' none -> w'.cell? ⟨w.heap.size,j,none⟩=some v:=fun j v hv w' q=>cell_kept0 (by simp only [World.cell?_alloc_mark];exact hv) q
 have HC:Hid (∀ w',Kept (w.alloc (.cells (cy9 (some ⟨sb,so,none⟩) ysc yu yuc yd ydc N) 26)) w' none -> w'.cell? ⟨w.heap.size,0,none⟩=some (.slice (some ⟨sb,so,none⟩) N.sites.length ysc) /\ w'.cell? ⟨w.heap.size,1,none⟩=some (.slice yu N.subs.length yuc) /\ w'.cell? ⟨w.heap.size,2,none⟩=some (.slice yd N.weds.length ydc) /\ w'.cell? ⟨w.heap.size,3,none⟩=some (.int .i64 N.low) /\ w'.cell? ⟨w.heap.size,4,none⟩=some (.int .i64 N.high) /\ w'.cell? ⟨w.heap.size,5,none⟩=some (.int .i64 N.step)):=fun w' q=>⟨hcs 0 _ rfl w' q,hcs 1 _ rfl w' q,hcs 2 _ rfl w' q,hcs 3 _ rfl w' q,hcs 4 _ rfl w' q,hcs 5 _ rfl w' q⟩
 have HE0:Hid (ncyclesB N=(timeB N.low && inB N.high N.low 1048576 && timeB N.step && decide ((N.high - N.low) % N.step=0) && decide ((N.high - N.low) / N.step <= 64) && allB N.sites.length (fun i=>decide ((N.sites.getD i s0).low <= N.low) && decide (N.high <= (N.sites.getD i s0).high)))):=rfl;clear h hk hcs;obtain ⟨n0,n1,n2,n3,n4,n5⟩:=HC.out _ (Kept.refl _ _);go_enter Tryz.func59,Tryz.ntmps59
 cases b1:timeB N.low with
 | false =>
  go_wp2_with (first | (go_at_call 80;refine nwithin_isM (by assumption) ?_) | (go_at_call 84;refine (ntime_is (by assumption)).mono ?_;rintro e w9 ⟨rfl,rfl⟩));go_ret;exact ⟨by rw [HE0.out,b1];rfl,HK.out⟩
 | true =>
 cases b2:inB N.high N.low 1048576 with
 | false =>
  go_wp2_with (first | (go_at_call 80;refine nwithin_isM (by assumption) ?_) | (go_at_call 84;refine (ntime_is (by assumption)).mono ?_;rintro e w9 ⟨rfl,rfl⟩));go_ret;exact ⟨by rw [HE0.out,b1,b2];rfl,HK.out⟩
 | true =>
 cases b3:timeB N.step with
 | false =>
  go_wp2_with (first | (go_at_call 80;refine nwithin_isM (by assumption) ?_) | (go_at_call 84;refine (ntime_is (by assumption)).mono ?_;rintro e w9 ⟨rfl,rfl⟩));go_ret;exact ⟨by rw [HE0.out,b1,b2,b3];rfl,HK.out⟩
 | true =>
 have hlo:=inB_iff.1 (show inB N.low 1 1048576=true from b1);have hhi:=inB_iff.1 b2;have hst:=inB_iff.1 (show inB N.step 1 1048576=true from b3);have hnz:(N.step == 0)=false:=by rw [beq_eq_false_iff_ne];omega
 have hnz1:¬ N.step=0:=by omega
 have hwr:IntKind.i64.wrap (N.high - N.low)=N.high - N.low:=wrap_in (by omega) (by omega);have htm:(N.high - N.low).tmod N.step=(N.high - N.low) % N.step:=Int.tmod_eq_emod_of_nonneg (by omega);have HST:Hid (∀ w',Calls Tryz.prog 85 #[netV ⟨some ⟨sb,so,none⟩,ysc,yu,yuc,yd,ydc,X,r,t⟩ N] w' fun e w''=>e=.returned (.int .i64 ((N.high - N.low) / N.step)) /\ Kept w' w'' none):=fun w'=>steps_net (by omega) (by omega) (by omega)
 have HB:Hid (timeB N.low=true /\ inB N.high N.low 1048576=true /\ timeB N.step=true):=⟨b1,b2,b3⟩;generalize hrm:(N.high - N.low) % N.step=RM at *;generalize hqt:(N.high - N.low) / N.step=QT at *;by_cases h4:RM=0
 case neg =>
  go_wp2_with (first | (go_at_call 80;refine nwithin_isM (by assumption) ?_) | (go_at_call 84;refine (ntime_is (by assumption)).mono ?_;rintro e w9 ⟨rfl,rfl⟩));go_ret;exact ⟨by rw [HE0.out,decide_eq_false h4];simp,HK.out⟩
 by_cases h5:QT <= 64
 case neg =>
  go_wp2_with (first | (go_at_call 85;refine (HST.out _).mono ?_;rintro e w4 ⟨rfl,hk4⟩) | (go_at_call 80;refine nwithin_isM (by assumption) ?_) | (go_at_call 84;refine (ntime_is (by assumption)).mono ?_;rintro e w9 ⟨rfl,rfl⟩));go_ret;exact ⟨by rw [HE0.out,decide_eq_false (show ¬ QT <= 64 by omega)];simp,HK.out.tr hk4⟩
 go_wp2_with (first | (go_at_call 85;refine (HST.out _).mono ?_;rintro e w4 ⟨rfl,hk4⟩;clear n0 n1 n2 n3 n4 n5;obtain ⟨n0,n1,n2,n3,n4,n5⟩:=HC.out _ hk4) | (go_at_call 80;refine nwithin_isM (by assumption) ?_) | (go_at_call 84;refine (ntime_is (by assumption)).mono ?_;rintro e w9 ⟨rfl,rfl⟩));generalize hW:(w.alloc (.cells (cy9 (some ⟨sb,so,none⟩) ysc yu yuc yd ydc N) 26))=W at *;clear hW n0 n1 n2 n3 n4 n5;go_loopw [40] (fun i wr=>∃ (k:Nat),k <= N.sites.length /\ i=.int .i64 k /\ Hid (∀ j,j < k -> (decide ((N.sites.getD j s0).low <= N.low) && decide (N.high <= (N.sites.getD j s0).high))=true) /\ Kept W wr none) (fun i _=>N.sites.length - (intOf i).toNat)
 case atStart=>exact ⟨0,Nat.zero_le _,rfl,(fun j hj=>by omega),hk4⟩
 case round =>
  clear hk4;obtain ⟨k,hk,rfl,HJ,hkr⟩:=hrel;by_cases hlt:k < N.sites.length
  . obtain ⟨sb',so',es,_,hc⟩:=(HN.out.kept hkr).s1.at_ (by omega);dsimp only at es;injection es with es;injection es with es1 es2;subst es1 es2;have e0:=hc k hlt 0 (by omega);have e1:=hc k hlt 1 (by omega);have e2:=hc k hlt 2 (by omega);have e3:=hc k hlt 3 (by omega);have e4:=hc k hlt 4 (by omega);have e5:=hc k hlt 5 (by omega);have e6:=hc k hlt 6 (by omega);have e7:=hc k hlt 7 (by omega);have e8:=hc k hlt 8 (by omega);have e9:=hc k hlt 9 (by omega);have e10:=hc k hlt 10 (by omega);have e11:=hc k hlt 11 (by omega)
    have HNO:Hid ((decide ((N.sites.getD k s0).low <= N.low) && decide (N.high <= (N.sites.getD k s0).high))=false -> ncyclesB N=false):=fun q=>by
     show ncyclesB N=false
     rw [HE0.out,allB_no hlt q];simp
    obtain ⟨S,hS⟩:∃ S,N.sites.getD k s0=S:=⟨_,rfl⟩
    rw [hS] at e0 e1 e2 e3 e4 e5 e6 e7 e8 e9 e10 e11 HNO;have HSE:=Hid.mk' hS;clear hS;generalize X k=Xk at *;obtain ⟨xg,xgc,xa,xac,xb,xbc,xp,xpc,xe,xec,xl,xlc⟩:=Xk;dsimp only [stV,Nat.add_zero] at e0 e1 e2 e3 e4 e5 e6 e7 e8 e9 e10 e11;have hkA:Kept wr (wr.alloc (.cells (cx9 xg xgc xa xac xb xbc xp xpc xe xec xl xlc S) 49)) none:=Kept.alloc _ _ _ _ _;obtain ⟨n0,n1,n2,n3,n4,n5⟩:=HC.out _ (hkr.tr hkA);obtain ⟨m0,m1,m2,m3,m4,m5⟩:=HC.out _ hkr;have hwl:w.heap.size < wr.heap.size:=block_lt m0;have HKA:=Hid.mk' (hkr.tr hkA);clear hc hkA;by_cases hlo':S.low <= N.low
    case neg =>
     have HE:=Hid.mk' (HNO.out (by rw [decide_eq_false hlo'];rfl));have hlo2:N.low < S.low:=by omega
     clear HNO;go_wp2;go_ret;exact ⟨by rw [HE.out];rfl,HK.out.tr (hkr.tr (Kept.alloc _ _ _ _ _))⟩
    by_cases hhi':N.high <= S.high
    case neg =>
     have HE:=Hid.mk' (HNO.out (by rw [decide_eq_false hhi'];simp));have hhi2:S.high < N.high:=by omega
     clear HNO;go_wp2;go_ret;exact ⟨by rw [HE.out];rfl,HK.out.tr (hkr.tr (Kept.alloc _ _ _ _ _))⟩
    clear HNO;go_wp2;go_roundw
    case rel=>exact ⟨k + 1,by omega,by go_num,(fun j hj=>(by
     by_cases e:j=k
     . rw [e,HSE.out,decide_eq_true hlo',decide_eq_true hhi'];rfl
     . exact HJ.out j (by omega))),hkr.tr (Kept.alloc _ _ _ _ _)⟩
    case measure=>simp [intOf];omega
  . have e:k=N.sites.length:=by omega
    subst e
    have HE:Hid (ncyclesB N=true):=by
     show ncyclesB N=true
     rw [HE0.out,HB.out.1,HB.out.2.1,HB.out.2.2,decide_eq_true h4,decide_eq_true h5,allB_iff.2 HJ.out];rfl
    go_wp2;go_ret;exact ⟨by rw [HE.out];rfl,HK.out.tr hkr⟩
theorem weds_net {w:World} {B:Nat} {Y:Na} {N:Nt} {M:Ms} (h:Far w B Y N) (hM:Marks w B M) (hl:M.length <= 500) (hd8:N.weds.length <= 8) (hs6:N.subs.length <= 6) (hlo:1 <= N.low /\ N.low <= 1048576):Calls Tryz.prog 60 #[netV Y N,.map (some B)] w fun e w'=>HoldP (wedsF N M N.weds.length) w B e w':=by
 obtain ⟨ys,ysc,yu,yuc,yd,ydc,X,r,t⟩:=Y;have hk:Kept w (w.alloc (.cells (cy9 ys ysc yu yuc yd ydc N) 26)) none:=Kept.alloc _ _ _ _ _;have HK:=Hid.mk' (kept_any (r:=some B) hk);have HF:=Hid.mk' (h.kept (kept_any hk));have HM:=Hid.mk' (hM.kept hk (by simp));have hBn:=hM.lt;have hcs:∀ j v,(cy9 ys ysc yu yuc yd ydc N)[j]? = some v -> ∀ w',Kept (w.alloc (.cells (cy9 ys ysc yu yuc yd ydc N) 26)) w' (some B) -> w'.cell? ⟨w.heap.size,j,none⟩=some v:=fun j v hv w' q=>(World.cell?_of_block (w:=(w.alloc (.cells (cy9 ys ysc yu yuc yd ydc N) 26))) (a:=⟨w.heap.size,j,none⟩) (q.block w.heap.size (by simp) (fun e=>by injection e with e;omega))).trans (by simp only [World.cell?_alloc_mark];exact hv)
 have HC:Hid (∀ w',Kept (w.alloc (.cells (cy9 ys ysc yu yuc yd ydc N) 26)) w' (some B) -> w'.cell? ⟨w.heap.size,0,none⟩=some (.slice ys N.sites.length ysc) /\ w'.cell? ⟨w.heap.size,1,none⟩=some (.slice yu N.subs.length yuc) /\ w'.cell? ⟨w.heap.size,2,none⟩=some (.slice yd N.weds.length ydc) /\ w'.cell? ⟨w.heap.size,3,none⟩=some (.int .i64 N.low) /\ w'.cell? ⟨w.heap.size,4,none⟩=some (.int .i64 N.high) /\ w'.cell? ⟨w.heap.size,5,none⟩=some (.int .i64 N.step)):=fun w' q=>⟨hcs 0 _ rfl w' q,hcs 1 _ rfl w' q,hcs 2 _ rfl w' q,hcs 3 _ rfl w' q,hcs 4 _ rfl w' q,hcs 5 _ rfl w' q⟩
 clear h hM hk hcs;go_enter Tryz.func60,Tryz.ntmps60;go_wp2;generalize hW:(w.alloc (.cells (cy9 ys ysc yu yuc yd ydc N) 26))=W at *;clear hW;go_loopw [10] (fun i wr=>∃ (k:Nat) (M':Ms),k <= N.weds.length /\ i=.int .i64 k /\ Hid (wedsF N M k=some M') /\ M'.length <= 500 + k /\ Hid (Marks wr B M') /\ Hid (Kept W wr (some B))) (fun i _=>N.weds.length - (intOf i).toNat)
 case atStart=>exact ⟨0,M,Nat.zero_le _,rfl,rfl,by omega,HM,Kept.refl _ _⟩
 case round =>
  clear HM;obtain ⟨k,M',hk,rfl,HS,hml0,HMr,KR⟩:=hrel;by_cases hlt:k < N.weds.length
  . obtain ⟨db,do_,ed,_,hc⟩:=(HF.out.net _ KR.out).d1.at_ (by omega);dsimp only at ed;subst ed;have e0:wr.cell? ⟨db,do_ + k * 4,none⟩=some (.int .i64 (N.weds.getD k d0).a):=hc k hlt 0 (by omega);have e1:wr.cell? ⟨db,do_ + k * 4 + 1,none⟩=some (.int .i64 (N.weds.getD k d0).b):=hc k hlt 1 (by omega);have e2:wr.cell? ⟨db,do_ + k * 4 + 2,none⟩=some (.int .i64 (N.weds.getD k d0).votes):=hc k hlt 2 (by omega);have e3:wr.cell? ⟨db,do_ + k * 4 + 3,none⟩=some (.slice (t k).1 (N.weds.getD k d0).offsets.length (t k).2):=hc k hlt 3 (by omega);have hdr:=(HF.out.net _ KR.out).dr _ (getD_mem (d:=d0) hlt);have HIT:Hid (∀ w',Kept W w' (some B) -> Ints w' (t k).1 (N.weds.getD k d0).offsets.length (t k).2 (N.weds.getD k d0).offsets):=fun w' q=>(HF.out.net w' q).d2 k hlt
    have HNX:Hid (wedsF N M (k + 1)=none -> wedsF N M N.weds.length=none):=fun q=>wedsF_none q _ (by omega)
    have HRec:Hid (wedsF N M (k + 1)=if (inB (N.weds.getD k d0).a 0 ((N.subs.length:Int) - 1) && inB (N.weds.getD k d0).b ((N.weds.getD k d0).a + 1) ((N.subs.length:Int) - 1))=true then (match putF M' (2,(N.weds.getD k d0).a,(N.weds.getD k d0).b) k with
     | none=>none
     | some M''=>if (timeB (N.weds.getD k d0).votes && offsetsB N (N.weds.getD k d0).offsets)=true then some M'' else none) else none):=by
     show wedsF N M (k + 1)=_
     rw [wedsF,HS.out]
     all_goals (simp only;split <;> first | rfl | (cases putF M' (2,(N.weds.getD k d0).a,(N.weds.getD k d0).b) k <;> rfl))
    generalize N.weds.getD k d0=D at *;generalize t k=tp at *;obtain ⟨ta,tc⟩:=tp;dsimp only at *;have hkA:Kept wr (wr.alloc (.cells #[.int .i64 D.a,.int .i64 D.b,.int .i64 D.votes,.slice ta D.offsets.length tc] 54)) none:=Kept.alloc _ _ _ _ _;have HKA:=Hid.mk' (KR.out.tr (kept_any hkA));have HMA:=Hid.mk' (HMr.out.kept hkA (by simp));have hBr:=HMr.out.lt;have hds:∀ j v,#[.int .i64 D.a,.int .i64 D.b,.int .i64 D.votes,.slice ta D.offsets.length tc][j]? = some v -> ∀ w',Kept (wr.alloc (.cells #[.int .i64 D.a,.int .i64 D.b,.int .i64 D.votes,.slice ta D.offsets.length tc] 54)) w' (some B) -> w'.cell? ⟨wr.heap.size,j,none⟩=some v:=fun j v hv w' q=>(World.cell?_of_block (w:=(wr.alloc (.cells #[.int .i64 D.a,.int .i64 D.b,.int .i64 D.votes,.slice ta D.offsets.length tc] 54))) (a:=⟨wr.heap.size,j,none⟩) (q.block wr.heap.size (by simp) (fun e=>by injection e with e;omega))).trans (by simp only [World.cell?_alloc_mark];exact hv)
    have HD:Hid (∀ w',Kept (wr.alloc (.cells #[.int .i64 D.a,.int .i64 D.b,.int .i64 D.votes,.slice ta D.offsets.length tc] 54)) w' (some B) -> w'.cell? ⟨wr.heap.size,0,none⟩=some (.int .i64 D.a) /\ w'.cell? ⟨wr.heap.size,1,none⟩=some (.int .i64 D.b) /\ w'.cell? ⟨wr.heap.size,2,none⟩=some (.int .i64 D.votes) /\ w'.cell? ⟨wr.heap.size,3,none⟩=some (.slice ta D.offsets.length tc)):=fun w' q=>⟨hds 0 _ rfl w' q,hds 1 _ rfl w' q,hds 2 _ rfl w' q,hds 3 _ rfl w' q⟩
    have HI:Hid (∀ w',Kept (wr.alloc (.cells #[.int .i64 D.a,.int .i64 D.b,.int .i64 D.votes,.slice ta D.offsets.length tc] 54)) w' (some B) -> Ints w' ta D.offsets.length tc D.offsets):=fun w' q=>HIT.out w' (HKA.out.tr q)
    obtain ⟨n0,n1,n2,n3,n4,n5⟩:=HC.out _ KR.out;obtain ⟨m0,m1,m2,m3,m4,m5⟩:=HC.out _ HKA.out;obtain ⟨d0,d1,d2,d3⟩:=HD.out _ (Kept.refl _ _);have hwl:w.heap.size < wr.heap.size:=block_lt n0;have hmk:mkR (2,D.a,D.b):=⟨by show i64B 2;unfold i64B;omega,hdr.1,hdr.2.1⟩;have hpl:i64B (k:Int):=by unfold i64B;omega
    have hml:M'.length <= 1000:=by omega
    have hwr:IntKind.i64.wrap ((N.subs.length:Int) - 1)=(N.subs.length:Int) - 1:=wrap_in (by omega) (by omega);clear hc hkA hds HMr HS HIT hdr
    cases b1:inB D.a 0 ((N.subs.length:Int) - 1) with
    | false =>
     have HE:=Hid.mk' (HNX.out (by rw [HRec.out,b1];rfl));go_wp2_with (go_at_call 80;refine nwithin_isM (by assumption) ?_);go_ret;exact HoldP.no HE.out (HK.out.tr (HKA.out))
    | true =>
    have hab:=inB_iff.1 b1;have hwa:IntKind.i64.wrap (D.a + 1)=D.a + 1:=wrap_in (by omega) (by omega)
    cases b2:inB D.b (D.a + 1) ((N.subs.length:Int) - 1) with
    | false =>
     have HE:=Hid.mk' (HNX.out (by rw [HRec.out,b1,b2];rfl));go_wp2_with (go_at_call 80;refine nwithin_isM (by assumption) ?_);go_ret;exact HoldP.no HE.out (HK.out.tr (HKA.out))
    | true =>
    cases hf:mkF M' (2,D.a,D.b) with
    | some v =>
     have HE:=Hid.mk' (HNX.out (by rw [HRec.out,b1,b2,putF_old hf];rfl));go_wp2_with (first | (go_at_call 81;refine (isFirst_old HMA.out hmk _ v hf).mono ?_;rintro e w4 ⟨rfl,hk4⟩) | (go_at_call 80;refine nwithin_isM (by assumption) ?_));go_ret;exact HoldP.no HE.out (HK.out.tr (HKA.out.tr (kept_any hk4)))
    | none =>
    cases b3:timeB D.votes with
    | false =>
     have HE:=Hid.mk' (HNX.out (by rw [HRec.out,b1,b2,putF_new hf,b3];rfl));go_wp2_with (first | (go_at_call 81;refine (isFirst_new HMA.out hmk _ hpl hml hf).mono ?_;rintro e w4 ⟨rfl,hm4,hk4⟩;clear m0 m1 m2 m3 m4 m5 d0 d1 d2 d3;obtain ⟨m0,m1,m2,m3,m4,m5⟩:=HC.out _ (HKA.out.tr hk4);obtain ⟨d0,d1,d2,d3⟩:=HD.out _ hk4) | (go_at_call 84;refine (ntime_is (by assumption)).mono ?_;rintro e w9 ⟨rfl,rfl⟩) | (go_at_call 80;refine nwithin_isM (by assumption) ?_));go_ret;exact HoldP.no HE.out (HK.out.tr (HKA.out.tr hk4))
    | true =>
    cases hof:offsetsB N D.offsets with
    | false =>
     have HE:=Hid.mk' (HNX.out (by rw [HRec.out,b1,b2,putF_new hf,b3,hof];rfl));go_wp2_with (first | (go_at_call 86;have hn:=offsets_net (Y:=⟨ys,ysc,yu,yuc,some ⟨db,do_,none⟩,ydc,X,r,t⟩) (N:=N) (HI.out _ hk4) hlo;rw [hof] at hn;refine hn.mono ?_;rintro e w5 ⟨rfl,hk5⟩) | (go_at_call 81;refine (isFirst_new HMA.out hmk _ hpl hml hf).mono ?_;rintro e w4 ⟨rfl,hm4,hk4⟩;clear m0 m1 m2 m3 m4 m5 d0 d1 d2 d3;obtain ⟨m0,m1,m2,m3,m4,m5⟩:=HC.out _ (HKA.out.tr hk4);obtain ⟨d0,d1,d2,d3⟩:=HD.out _ hk4) | (go_at_call 84;refine (ntime_is (by assumption)).mono ?_;rintro e w9 ⟨rfl,rfl⟩) | (go_at_call 80;refine nwithin_isM (by assumption) ?_));go_ret;exact HoldP.no HE.out (HK.out.tr (HKA.out.tr (hk4.tr (kept_any hk5))))
    | true =>
     have HE:Hid (wedsF N M (k + 1)=some (((2,D.a,D.b),(k:Int)) :: M')):=by
      show wedsF N M (k + 1)=_
      rw [HRec.out,b1,b2,putF_new hf,b3,hof];rfl
     go_wp2_with (first | (go_at_call 86;have hn:=offsets_net (Y:=⟨ys,ysc,yu,yuc,some ⟨db,do_,none⟩,ydc,X,r,t⟩) (N:=N) (HI.out _ hk4) hlo;rw [hof] at hn;refine hn.mono ?_;rintro e w5 ⟨rfl,hk5⟩) | (go_at_call 81;refine (isFirst_new HMA.out hmk _ hpl hml hf).mono ?_;rintro e w4 ⟨rfl,hm4,hk4⟩;clear m0 m1 m2 m3 m4 m5 d0 d1 d2 d3;obtain ⟨m0,m1,m2,m3,m4,m5⟩:=HC.out _ (HKA.out.tr hk4);obtain ⟨d0,d1,d2,d3⟩:=HD.out _ hk4) | (go_at_call 84;refine (ntime_is (by assumption)).mono ?_;rintro e w9 ⟨rfl,rfl⟩) | (go_at_call 80;refine nwithin_isM (by assumption) ?_));go_roundw
     case rel=>exact ⟨k + 1,_,by omega,by go_num,HE,(by simp;omega),hm4.kept hk5 (by simp),HKA.out.tr (hk4.tr (kept_any hk5))⟩
     case measure=>simp [intOf];omega
  . have e:k=N.weds.length:=by omega
    subst e;go_wp2;go_ret;exact HoldP.yes HS.out HMr.out (HK.out.tr KR.out)
def LookP (r:Option Ms) (w:World) (e:Ending) (w':World):Prop:=match r with
 | none=>e=.returned (.tuple #[.map none,.int .i64 60]) /\ Kept w w' none
 | some M=>∃ B,e=.returned (.tuple #[.map (some B),.int .i64 0]) /\ Marks w' B M /\ Kept w w' none
theorem LookP.no {r:Option Ms} {w w':World} (h:r=none) (k:Kept w w' none):LookP r w (.returned (.tuple #[.map none,.int .i64 60])) w':=by subst h;exact ⟨rfl,k⟩
theorem LookP.yes {r:Option Ms} {M:Ms} {w w':World} {B:Nat} (h:r=some M) (m:Marks w' B M) (k:Kept w w' none):LookP r w (.returned (.tuple #[.map (some B),.int .i64 0])) w':=by subst h;exact ⟨B,rfl,m,k⟩
theorem sitesF_len {N:Nt}:∀ k M,sitesF N k=some M -> M.length=k
 | 0,M,h=>by injection h with h;subst h;rfl
 | k + 1,M,h=>by
  rw [sitesF] at h
  cases h1:sitesF N k with
  | none=>rw [h1] at h;cases h
  | some M1 =>
   rw [h1] at h;simp only at h;split at h
   . unfold putF at h;split at h
     . cases h
     . injection h with h;subst h;simp [sitesF_len k M1 h1]
   . cases h
theorem Kept.allocMap (w:World) (r:Option Nat):Kept w (w.alloc (.map #[] 0)) r:=⟨rfl,rfl,rfl,by simp,fun k hk _=>Below.heap_alloc _ _ _ hk⟩
theorem lookF_eq (N:Nt):lookF N=if ncountsB N=true then (match sitesF N N.sites.length with
 | none=>none
 | some M=>match subsP N M with
  | none=>none
  | some M'=>if ncyclesB N=true then wedsF N M' N.weds.length else none) else none:=by
 unfold lookF;split
 . cases h1:sitesF N N.sites.length with
   | none=>rfl
   | some M =>
    simp only [subsP]
    cases h2:subsF N M N.subs.length with
    | none=>rfl
    | some M' =>
     simp only
     cases h3:placedB N M' <;> cases h4:ncyclesB N <;> simp
 . rfl
theorem look_net {w:World} {Y:Na} {N:Nt} (h:NetAt w Y N) (hT:Tabb w):Calls Tryz.prog 32 #[netV Y N] w fun e w'=>LookP (lookF N) w e w':=by
 obtain ⟨ys,ysc,yu,yuc,yd,ydc,X,r,t⟩:=Y;have hmm:=@run_makeMap Tryz.prog;have hk:Kept w (w.alloc (.cells (cy9 ys ysc yu yuc yd ydc N) 26)) none:=Kept.alloc _ _ _ _ _;have hkm:Kept (w.alloc (.cells (cy9 ys ysc yu yuc yd ydc N) 26)) ((w.alloc (.cells (cy9 ys ysc yu yuc yd ydc N) 26)).alloc (.map #[] 0)) none:=Kept.allocMap _ _;have hsz:(w.alloc (.cells (cy9 ys ysc yu yuc yd ydc N) 26)).heap.size=w.heap.size + 1:=by simp
 have HM:Hid (Marks ((w.alloc (.cells (cy9 ys ysc yu yuc yd ydc N) 26)).alloc (.map #[] 0)) (w.heap.size + 1) []):=by
  have:=Marks.made (w.alloc (.cells (cy9 ys ysc yu yuc yd ydc N) 26));rw [hsz] at this;exact this
 have HK:=Hid.mk' (hk.tr hkm);have HN:=Hid.mk' (h.kept (hk.tr hkm));have HF:Hid (Far ((w.alloc (.cells (cy9 ys ysc yu yuc yd ydc N) 26)).alloc (.map #[] 0)) (w.heap.size + 1) ⟨ys,ysc,yu,yuc,yd,ydc,X,r,t⟩ N):=⟨fun w' q=>h.kept ((hk.tr hkm).newRow q (fun i hi=>by injection hi with hi;omega)),fun w' q=>hT.kept ((hk.tr hkm).newRow q (fun i hi=>by injection hi with hi;omega))⟩;have hcs:∀ j v,(cy9 ys ysc yu yuc yd ydc N)[j]? = some v -> ∀ w',Kept ((w.alloc (.cells (cy9 ys ysc yu yuc yd ydc N) 26)).alloc (.map #[] 0)) w' (some (w.heap.size + 1)) -> w'.cell? ⟨w.heap.size,j,none⟩=some v:=fun j v hv w' q=>(World.cell?_of_block (w:=((w.alloc (.cells (cy9 ys ysc yu yuc yd ydc N) 26)).alloc (.map #[] 0))) (a:=⟨w.heap.size,j,none⟩) (q.block w.heap.size (by simp;omega) (fun e=>by injection e with e;omega))).trans (cell_kept0 (by simp only [World.cell?_alloc_mark];exact hv) hkm)
 have HC:Hid (∀ w',Kept ((w.alloc (.cells (cy9 ys ysc yu yuc yd ydc N) 26)).alloc (.map #[] 0)) w' (some (w.heap.size + 1)) -> w'.cell? ⟨w.heap.size,0,none⟩=some (.slice ys N.sites.length ysc) /\ w'.cell? ⟨w.heap.size,1,none⟩=some (.slice yu N.subs.length yuc) /\ w'.cell? ⟨w.heap.size,2,none⟩=some (.slice yd N.weds.length ydc) /\ w'.cell? ⟨w.heap.size,3,none⟩=some (.int .i64 N.low) /\ w'.cell? ⟨w.heap.size,4,none⟩=some (.int .i64 N.high) /\ w'.cell? ⟨w.heap.size,5,none⟩=some (.int .i64 N.step)):=fun w' q=>⟨hcs 0 _ rfl w' q,hcs 1 _ rfl w' q,hcs 2 _ rfl w' q,hcs 3 _ rfl w' q,hcs 4 _ rfl w' q,hcs 5 _ rfl w' q⟩
 obtain ⟨m0,m1,m2,m3,m4,m5⟩:=HC.out _ (Kept.refl _ _);have HE0:=Hid.mk' (lookF_eq N);clear h hT hk hkm hcs;go_enter Tryz.func32,Tryz.ntmps32
 cases b1:ncountsB N with
 | false =>
  have HE:Hid (lookF N=none):=by show lookF N=none;rw [HE0.out,b1];rfl
  go_wp2_with (go_at_call 56;have hn:=counts_net HN.out;rw [b1] at hn;refine hn.mono ?_;rintro e w3 ⟨rfl,hk3⟩;clear m0 m1 m2 m3 m4 m5;obtain ⟨m0,m1,m2,m3,m4,m5⟩:=HC.out _ (kept_any hk3));go_ret2;exact LookP.no HE.out (HK.out.tr hk3)
 | true =>
 have hb1:=b1;unfold ncountsB at hb1;rw [Bool.and_eq_true,Bool.and_eq_true,inB_iff,inB_iff,decide_eq_true_iff] at hb1;obtain ⟨⟨⟨hn1,hn12⟩,hs1,hs6⟩,hd8⟩:=hb1;have hn1:1 <= N.sites.length:=by omega
 have hn12:N.sites.length <= 12:=by omega
 have hs1:1 <= N.subs.length:=by omega
 have hs6:N.subs.length <= 6:=by omega
 cases b2:sitesF N N.sites.length with
 | none =>
  have HE:Hid (lookF N=none):=by show lookF N=none;rw [HE0.out,b1,b2];rfl
  go_wp2_with (first | (go_at_call 57;have hn:=sites_net (HF.out.kept (kept_any hk3)) (HM.out.kept hk3 (by simp)) hn12;rw [b2] at hn;refine hn.mono ?_;rintro e w4 ⟨rfl,hk4⟩;clear m0 m1 m2 m3 m4 m5;obtain ⟨m0,m1,m2,m3,m4,m5⟩:=HC.out _ ((kept_any hk3).tr hk4)) | (go_at_call 56;have hn:=counts_net HN.out;rw [b1] at hn;refine hn.mono ?_;rintro e w3 ⟨rfl,hk3⟩;clear m0 m1 m2 m3 m4 m5;obtain ⟨m0,m1,m2,m3,m4,m5⟩:=HC.out _ (kept_any hk3)));go_ret2;exact LookP.no HE.out (HK.out.newRow ((kept_any hk3).tr hk4) (fun i hi=>by injection hi with hi;omega))
 | some M1 =>
 have hml1:M1.length <= 100:=by have:=sitesF_len _ _ b2;omega
 cases b3:subsP N M1 with
 | none =>
  have HE:Hid (lookF N=none):=by show lookF N=none;rw [HE0.out,b1,b2];simp [b3]
  go_wp2_with (first | (go_at_call 58;have hn:=subs_net (HF.out.kept ((kept_any hk3).tr hk4)) hm4 hn12 hml1 hs1;rw [b3] at hn;refine hn.mono ?_;rintro e w5 ⟨rfl,hk5⟩;clear m0 m1 m2 m3 m4 m5;obtain ⟨m0,m1,m2,m3,m4,m5⟩:=HC.out _ ((kept_any hk3).tr (hk4.tr hk5))) | (go_at_call 57;have hn:=sites_net (HF.out.kept (kept_any hk3)) (HM.out.kept hk3 (by simp)) hn12;rw [b2] at hn;refine hn.mono ?_;rintro e w4 ⟨rfl,hm4,hk4⟩;clear m0 m1 m2 m3 m4 m5;obtain ⟨m0,m1,m2,m3,m4,m5⟩:=HC.out _ ((kept_any hk3).tr hk4)) | (go_at_call 56;have hn:=counts_net HN.out;rw [b1] at hn;refine hn.mono ?_;rintro e w3 ⟨rfl,hk3⟩;clear m0 m1 m2 m3 m4 m5;obtain ⟨m0,m1,m2,m3,m4,m5⟩:=HC.out _ (kept_any hk3)));go_ret2;exact LookP.no HE.out (HK.out.newRow ((kept_any hk3).tr (hk4.tr hk5)) (fun i hi=>by injection hi with hi;omega))
 | some M2 =>
 have hml2:M2.length <= 500:=by
  unfold subsP at b3
  cases h1:subsF N M1 N.subs.length with
  | none=>rw [h1] at b3;cases b3
  | some M' =>
   rw [h1] at b3;simp only at b3;split at b3
   . injection b3 with b3;subst b3;have h2:=subsF_many _ _ h1;have h3:=manyP_le N M';omega
   . cases b3
 cases b4:ncyclesB N with
 | false =>
  have HE:Hid (lookF N=none):=by show lookF N=none;rw [HE0.out,b1,b2];simp [b3,b4]
  go_wp2_with (first | (go_at_call 59;have hn:=cycles_net (HF.out.net _ ((kept_any hk3).tr (hk4.tr hk5))) hn1 hn12;rw [b4] at hn;refine hn.mono ?_;rintro e w6 ⟨rfl,hk6⟩;clear m0 m1 m2 m3 m4 m5;obtain ⟨m0,m1,m2,m3,m4,m5⟩:=HC.out _ ((kept_any hk3).tr (hk4.tr (hk5.tr (kept_any hk6))))) | (go_at_call 58;have hn:=subs_net (HF.out.kept ((kept_any hk3).tr hk4)) hm4 hn12 hml1 hs1;rw [b3] at hn;refine hn.mono ?_;rintro e w5 ⟨rfl,hm5,hk5⟩;clear m0 m1 m2 m3 m4 m5;obtain ⟨m0,m1,m2,m3,m4,m5⟩:=HC.out _ ((kept_any hk3).tr (hk4.tr hk5))) | (go_at_call 57;have hn:=sites_net (HF.out.kept (kept_any hk3)) (HM.out.kept hk3 (by simp)) hn12;rw [b2] at hn;refine hn.mono ?_;rintro e w4 ⟨rfl,hm4,hk4⟩;clear m0 m1 m2 m3 m4 m5;obtain ⟨m0,m1,m2,m3,m4,m5⟩:=HC.out _ ((kept_any hk3).tr hk4)) | (go_at_call 56;have hn:=counts_net HN.out;rw [b1] at hn;refine hn.mono ?_;rintro e w3 ⟨rfl,hk3⟩;clear m0 m1 m2 m3 m4 m5;obtain ⟨m0,m1,m2,m3,m4,m5⟩:=HC.out _ (kept_any hk3)));go_ret2;exact LookP.no HE.out (HK.out.newRow ((kept_any hk3).tr (hk4.tr (hk5.tr (kept_any hk6)))) (fun i hi=>by injection hi with hi;omega))
 | true =>
 have hlo:1 <= N.low /\ N.low <= 1048576:=by
  have h1:=b4;unfold ncyclesB at h1;simp only [Bool.and_eq_true] at h1;exact inB_iff.1 (show inB N.low 1 1048576=true from h1.1.1.1.1.1)
 cases b5:wedsF N M2 N.weds.length with
 | none =>
  have HE:Hid (lookF N=none):=by show lookF N=none;rw [HE0.out,b1,b2];simp [b3,b4,b5]
  go_wp2_with (first | (go_at_call 60;have hn:=weds_net (HF.out.kept ((kept_any hk3).tr (hk4.tr (hk5.tr (kept_any hk6))))) (hm5.kept hk6 (by simp)) hml2 hd8 hs6 hlo;rw [b5] at hn;refine hn.mono ?_;rintro e w7 ⟨rfl,hk7⟩) | (go_at_call 59;have hn:=cycles_net (HF.out.net _ ((kept_any hk3).tr (hk4.tr hk5))) hn1 hn12;rw [b4] at hn;refine hn.mono ?_;rintro e w6 ⟨rfl,hk6⟩;clear m0 m1 m2 m3 m4 m5;obtain ⟨m0,m1,m2,m3,m4,m5⟩:=HC.out _ ((kept_any hk3).tr (hk4.tr (hk5.tr (kept_any hk6))))) | (go_at_call 58;have hn:=subs_net (HF.out.kept ((kept_any hk3).tr hk4)) hm4 hn12 hml1 hs1;rw [b3] at hn;refine hn.mono ?_;rintro e w5 ⟨rfl,hm5,hk5⟩;clear m0 m1 m2 m3 m4 m5;obtain ⟨m0,m1,m2,m3,m4,m5⟩:=HC.out _ ((kept_any hk3).tr (hk4.tr hk5))) | (go_at_call 57;have hn:=sites_net (HF.out.kept (kept_any hk3)) (HM.out.kept hk3 (by simp)) hn12;rw [b2] at hn;refine hn.mono ?_;rintro e w4 ⟨rfl,hm4,hk4⟩;clear m0 m1 m2 m3 m4 m5;obtain ⟨m0,m1,m2,m3,m4,m5⟩:=HC.out _ ((kept_any hk3).tr hk4)) | (go_at_call 56;have hn:=counts_net HN.out;rw [b1] at hn;refine hn.mono ?_;rintro e w3 ⟨rfl,hk3⟩;clear m0 m1 m2 m3 m4 m5;obtain ⟨m0,m1,m2,m3,m4,m5⟩:=HC.out _ (kept_any hk3)));go_ret2;exact LookP.no HE.out (HK.out.newRow (((kept_any hk3).tr (hk4.tr (hk5.tr (kept_any hk6)))).tr hk7) (fun i hi=>by injection hi with hi;omega))
 | some M3 =>
  have HE:Hid (lookF N=some M3):=by show lookF N=some M3;rw [HE0.out,b1,b2];simp [b3,b4,b5]
  go_wp2_with (first | (go_at_call 60;have hn:=weds_net (HF.out.kept ((kept_any hk3).tr (hk4.tr (hk5.tr (kept_any hk6))))) (hm5.kept hk6 (by simp)) hml2 hd8 hs6 hlo;rw [b5] at hn;refine hn.mono ?_;rintro e w7 ⟨rfl,hm7,hk7⟩) | (go_at_call 59;have hn:=cycles_net (HF.out.net _ ((kept_any hk3).tr (hk4.tr hk5))) hn1 hn12;rw [b4] at hn;refine hn.mono ?_;rintro e w6 ⟨rfl,hk6⟩;clear m0 m1 m2 m3 m4 m5;obtain ⟨m0,m1,m2,m3,m4,m5⟩:=HC.out _ ((kept_any hk3).tr (hk4.tr (hk5.tr (kept_any hk6))))) | (go_at_call 58;have hn:=subs_net (HF.out.kept ((kept_any hk3).tr hk4)) hm4 hn12 hml1 hs1;rw [b3] at hn;refine hn.mono ?_;rintro e w5 ⟨rfl,hm5,hk5⟩;clear m0 m1 m2 m3 m4 m5;obtain ⟨m0,m1,m2,m3,m4,m5⟩:=HC.out _ ((kept_any hk3).tr (hk4.tr hk5))) | (go_at_call 57;have hn:=sites_net (HF.out.kept (kept_any hk3)) (HM.out.kept hk3 (by simp)) hn12;rw [b2] at hn;refine hn.mono ?_;rintro e w4 ⟨rfl,hm4,hk4⟩;clear m0 m1 m2 m3 m4 m5;obtain ⟨m0,m1,m2,m3,m4,m5⟩:=HC.out _ ((kept_any hk3).tr hk4)) | (go_at_call 56;have hn:=counts_net HN.out;rw [b1] at hn;refine hn.mono ?_;rintro e w3 ⟨rfl,hk3⟩;clear m0 m1 m2 m3 m4 m5;obtain ⟨m0,m1,m2,m3,m4,m5⟩:=HC.out _ (kept_any hk3)));go_ret2;exact LookP.yes HE.out hm7 (HK.out.newRow (((kept_any hk3).tr (hk4.tr (hk5.tr (kept_any hk6)))).tr hk7) (fun i hi=>by injection hi with hi;omega))
def netB (N:Nt):Bool:=(lookF N).isSome
def netE (N:Nt):Int:=if netB N=true then 0 else 60
theorem ncheck_any {w:World} {Y:Na} {N:Nt} (h:NetAt w Y N) (hT:Tabb w):Calls Tryz.prog 13 #[netV Y N] w fun e w'=>e=.returned (.int .i64 (netE N)) /\ Kept w w' none:=by
 obtain ⟨ys,ysc,yu,yuc,yd,ydc,X,r,t⟩:=Y;have hk:Kept w (w.alloc (.cells (cy9 ys ysc yu yuc yd ydc N) 26)) none:=Kept.alloc _ _ _ _ _;have HK:=Hid.mk' hk;have HN:=Hid.mk' (h.kept hk);have HT:=Hid.mk' (hT.kept hk);clear h hT hk;go_enter Tryz.func13,Tryz.ntmps13
 cases hl:lookF N with
 | none =>
  have HE:Hid (netE N=60):=by show netE N=60;unfold netE netB;rw [hl];rfl
  go_wp2_with (go_at_call 32;have hn:=look_net HN.out HT.out;rw [hl] at hn;refine hn.mono ?_;rintro e w3 ⟨rfl,hk3⟩);go_ret;exact ⟨by rw [HE.out];rfl,HK.out.tr hk3⟩
 | some M =>
  have HE:Hid (netE N=0):=by show netE N=0;unfold netE netB;rw [hl];rfl
  go_wp2_with (go_at_call 32;have hn:=look_net HN.out HT.out;rw [hl] at hn;refine hn.mono ?_;rintro e w3 ⟨B,rfl,hm3,hk3⟩);go_ret;exact ⟨by rw [HE.out];rfl,HK.out.tr hk3⟩
end
section
open Go.RowKit Go.Lib Go.Deep
theorem putF_some {M M':Ms} {k:Mk} {p:Int} (h:putF M k p=some M'):mkF M k=none /\ M'=(k,p) :: M:=by
 unfold putF at h
 cases e:mkF M k with
 | some v=>rw [e] at h;cases h
 | none=>rw [e] at h;injection h with h;exact ⟨rfl,h.symm⟩
theorem sitesF_step {N:Nt} {k:Nat} {M:Ms} (h:sitesF N (k + 1)=some M):∃ M1,sitesF N k=some M1 /\ siteB (N.sites.getD k s0)=true /\ mkF M1 (0,(N.sites.getD k s0).id,0)=none /\ M=((0,(N.sites.getD k s0).id,0),(k:Int)) :: M1:=by
 rw [sitesF] at h
 cases h1:sitesF N k with
 | none=>rw [h1] at h;cases h
 | some M1 =>
  rw [h1] at h;simp only at h;split at h
  . rename_i hs;obtain ⟨h2,h3⟩:=putF_some h;exact ⟨M1,rfl,hs,h2,h3⟩
  . cases h
theorem takeF_step {N:Nt} {place k:Nat} {l:List Int} {M M':Ms} (h:takeF N place l M (k + 1)=some M'):∃ M1,takeF N place l M k=some M1 /\ inB (l.getD k 0) 0 ((N.sites.length:Int) - 1)=true /\ mkF M1 (1,l.getD k 0,0)=none /\ M'=((1,l.getD k 0,0),(place:Int)) :: M1:=by
 rw [takeF] at h
 cases h1:takeF N place l M k with
 | none=>rw [h1] at h;cases h
 | some M1 =>
  rw [h1] at h;simp only at h;split at h
  . rename_i hs;obtain ⟨h2,h3⟩:=putF_some h;exact ⟨M1,rfl,hs,h2,h3⟩
  . cases h
theorem subsF_step {N:Nt} {k:Nat} {M M':Ms} (h:subsF N M (k + 1)=some M'):∃ M1,subsF N M k=some M1 /\ takeF N k (N.subs.getD k u0).sites M1 (N.subs.getD k u0).sites.length=some M' /\ mkF M' (1,(N.subs.getD k u0).critical,0)=some (k:Int):=by
 rw [subsF] at h
 cases h1:subsF N M k with
 | none=>rw [h1] at h;cases h
 | some M1 =>
  rw [h1] at h;simp only at h
  cases h2:takeF N k (N.subs.getD k u0).sites M1 (N.subs.getD k u0).sites.length with
  | none=>rw [h2] at h;cases h
  | some M2 =>
   rw [h2] at h;simp only at h;split at h
   . rename_i hc;injection h with h;subst h;exact ⟨M1,rfl,h2,hc⟩
   . cases h
theorem wedsF_step {N:Nt} {k:Nat} {M M':Ms} (h:wedsF N M (k + 1)=some M'):∃ M1,wedsF N M k=some M1 /\ inB (N.weds.getD k d0).a 0 ((N.subs.length:Int) - 1)=true /\ inB (N.weds.getD k d0).b ((N.weds.getD k d0).a + 1) ((N.subs.length:Int) - 1)=true /\ mkF M1 (2,(N.weds.getD k d0).a,(N.weds.getD k d0).b)=none /\ M'=((2,(N.weds.getD k d0).a,(N.weds.getD k d0).b),(k:Int)) :: M1 /\ timeB (N.weds.getD k d0).votes=true /\ offsetsB N (N.weds.getD k d0).offsets=true:=by
 rw [wedsF] at h
 cases h1:wedsF N M k with
 | none=>rw [h1] at h;cases h
 | some M1 =>
  rw [h1] at h;simp only at h;split at h
  . rename_i hs;rw [Bool.and_eq_true] at hs
    cases h2:putF M1 (2,(N.weds.getD k d0).a,(N.weds.getD k d0).b) k with
    | none=>rw [h2] at h;cases h
    | some M2 =>
     rw [h2] at h;simp only at h;obtain ⟨h3,h4⟩:=putF_some h2;split at h
     . rename_i ht;rw [Bool.and_eq_true] at ht;injection h with h;subst h;exact ⟨M1,rfl,hs.1,hs.2,h3,h4,ht.1,ht.2⟩
     . cases h
  . cases h
theorem lookF_parts {N:Nt} {M:Ms} (h:lookF N=some M):ncountsB N=true /\ ∃ M1 M2,sitesF N N.sites.length=some M1 /\ subsF N M1 N.subs.length=some M2 /\ placedB N M2=true /\ ncyclesB N=true /\ wedsF N M2 N.weds.length=some M:=by
 unfold lookF at h;split at h
 . rename_i hc;refine ⟨hc,?_⟩
   cases h1:sitesF N N.sites.length with
   | none=>rw [h1] at h;cases h
   | some M1 =>
    rw [h1] at h;simp only at h
    cases h2:subsF N M1 N.subs.length with
    | none=>rw [h2] at h;cases h
    | some M2 =>
     rw [h2] at h;simp only at h;split at h
     . rename_i hp;rw [Bool.and_eq_true] at hp;exact ⟨M1,M2,rfl,h2,hp.1,hp.2,h⟩
     . cases h
 . cases h
theorem sitesF_all {N:Nt}:∀ k M,sitesF N k=some M -> ∀ i,i < k -> siteB (N.sites.getD i s0)=true
 | 0,M,h,i,hi=>by omega
 | k + 1,M,h,i,hi=>by
  obtain ⟨M1,h1,h2,_,_⟩:=sitesF_step h;by_cases e:i=k
  . subst e;exact h2
  . exact sitesF_all k M1 h1 i (by omega)
theorem sitesF_one {N:Nt} (x:Int):∀ k M,sitesF N k=some M -> mkF M (1,x,0)=none
 | 0,M,h=>by injection h with h;subst h;rfl
 | k + 1,M,h=>by
  obtain ⟨M1,h1,h2,_,h4⟩:=sitesF_step h;subst h4;rw [mkF_other _ _ (fun e=>by have:=congrArg Prod.fst e;cases this)];exact sitesF_one x k M1 h1
def InR (N:Nt) (M:Ms):Prop:=∀ x p,mkF M (1,x,0)=some p -> inB x 0 ((N.sites.length:Int) - 1)=true
theorem takeF_inr {N:Nt} {place:Nat} {l:List Int} {M:Ms} (hM:InR N M):∀ k M',takeF N place l M k=some M' -> InR N M' /\ ∀ i,i < k -> inB (l.getD i 0) 0 ((N.sites.length:Int) - 1)=true
 | 0,M',h=>by injection h with h;subst h;exact ⟨hM,fun i hi=>by omega⟩
 | k + 1,M',h=>by
  obtain ⟨M1,h1,h2,h3,h4⟩:=takeF_step h;obtain ⟨g1,g2⟩:=takeF_inr hM k M1 h1;subst h4;refine ⟨fun x p hx=>?_,fun i hi=>?_⟩
  . by_cases e:(1,x,0)=((1,l.getD k 0,0):Mk)
    . have:=congrArg (fun z:Mk=>z.2.1) e;simp only at this;rw [this];exact h2
    . rw [mkF_other _ _ e] at hx;exact g1 x p hx
  . by_cases e:i=k
    . subst e;exact h2
    . exact g2 i (by omega)
theorem subsF_inr {N:Nt} {M:Ms} (hM:InR N M):∀ k M',subsF N M k=some M' -> InR N M' /\ ∀ i,i < k -> (N.subs.getD i u0).sites.length <= N.sites.length /\ (∀ j,j < (N.subs.getD i u0).sites.length -> inB ((N.subs.getD i u0).sites.getD j 0) 0 ((N.sites.length:Int) - 1)=true) /\ inB (N.subs.getD i u0).critical 0 ((N.sites.length:Int) - 1)=true
 | 0,M',h=>by injection h with h;subst h;exact ⟨hM,fun i hi=>by omega⟩
 | k + 1,M',h=>by
  obtain ⟨M1,h1,h2,h3⟩:=subsF_step h;obtain ⟨g1,g2⟩:=subsF_inr hM k M1 h1;obtain ⟨t1,t2⟩:=takeF_inr g1 _ M' h2;refine ⟨t1,fun i hi=>?_⟩;by_cases e:i=k
  . subst e;have hm:=(takeF_many _ _ h2).1;have hl:=manyP_le N M';exact ⟨by omega,t2,t1 _ _ h3⟩
  . exact g2 i (by omega)
theorem wedsF_all {N:Nt} {M:Ms}:∀ k M',wedsF N M k=some M' -> ∀ i,i < k -> inB (N.weds.getD i d0).a 0 ((N.subs.length:Int) - 1)=true /\ inB (N.weds.getD i d0).b ((N.weds.getD i d0).a + 1) ((N.subs.length:Int) - 1)=true /\ timeB (N.weds.getD i d0).votes=true /\ offsetsB N (N.weds.getD i d0).offsets=true
 | 0,M',h,i,hi=>by omega
 | k + 1,M',h,i,hi=>by
  obtain ⟨M1,h1,h2,h3,h4,h5,h6,h7⟩:=wedsF_step h;by_cases e:i=k
  . subst e;exact ⟨h2,h3,h6,h7⟩
  . exact wedsF_all k M1 h1 i (by omega)
theorem getD_all {α:Type} {P:α -> Prop} {l:List α} {d:α} (h:∀ j,j < l.length -> P (l.getD j d)):∀ x ∈ l,P x:=fun x hx=>by
 obtain ⟨i,hi,rfl⟩:=List.getElem_of_mem hx;have:=h i hi;simpa [hi] using this
def cntI (l:List Int) (x:Int):Nat -> Nat
 | 0=>0
 | k + 1=>cntI l x k + (if l.getD k 0=x then 1 else 0)
theorem mk_ne1 {x y:Int} (h:x ≠ y):((1,x,0):Mk) ≠ (1,y,0):=fun e=>h (by have:=congrArg (fun z:Mk=>z.2.1) e;simpa using this)
theorem mk_neF {a b c d e f:Int} (h:a ≠ d):((a,b,c):Mk) ≠ (d,e,f):=fun q=>h (congrArg Prod.fst q)
theorem takeF_keep {N:Nt} {place:Nat} {l:List Int} {M:Ms} {q:Mk} {v:Int} (h:mkF M q=some v):∀ k M',takeF N place l M k=some M' -> mkF M' q=some v
 | 0,M',e=>by injection e with e;subst e;exact h
 | k + 1,M',e=>by
  obtain ⟨M1,h1,h2,h3,h4⟩:=takeF_step e;have h5:=takeF_keep h k M1 h1;subst h4;rw [mkF_other _ _ (fun e=>by rw [e,h3] at h5;cases h5)];exact h5
theorem takeF_other {N:Nt} {place:Nat} {l:List Int} {M:Ms} {a b c:Int} (ha:a ≠ 1):∀ k M',takeF N place l M k=some M' -> mkF M' (a,b,c)=mkF M (a,b,c)
 | 0,M',e=>by injection e with e;subst e;rfl
 | k + 1,M',e=>by
  obtain ⟨M1,h1,h2,h3,h4⟩:=takeF_step e;subst h4;rw [mkF_other _ _ (mk_neF ha)];exact takeF_other ha k M1 h1
theorem takeF_cnt {N:Nt} {place:Nat} {l:List Int} {M:Ms} (x:Int):∀ k M',takeF N place l M k=some M' ->
 (mkF M' (1,x,0)=mkF M (1,x,0) /\ cntI l x k=0) \/ (mkF M (1,x,0)=none /\ mkF M' (1,x,0)=some (place:Int) /\ cntI l x k=1)
 | 0,M',e=>by injection e with e;subst e;exact .inl ⟨rfl,rfl⟩
 | k + 1,M',e=>by
  obtain ⟨M1,h1,h2,h3,h4⟩:=takeF_step e;subst h4;by_cases hx:l.getD k 0=x
  . rw [hx] at h3 ⊢;have hc:cntI l x (k + 1)=cntI l x k + 1:=by rw [cntI,if_pos hx]
    rcases takeF_cnt x k M1 h1 with ⟨g1,g2⟩ | ⟨g1,g2,g3⟩
    . refine .inr ⟨by rw [<- g1];exact h3,mkF_same _ _ _,by rw [hc,g2]⟩
    . rw [g2] at h3;cases h3
  . have hc:cntI l x (k + 1)=cntI l x k:=by rw [cntI,if_neg hx];rfl
    rw [mkF_other _ _ (mk_ne1 (Ne.symm hx)),hc];exact takeF_cnt x k M1 h1
theorem subsF_other {N:Nt} {M:Ms} {a b c:Int} (ha:a ≠ 1):∀ k M',subsF N M k=some M' -> mkF M' (a,b,c)=mkF M (a,b,c)
 | 0,M',e=>by injection e with e;subst e;rfl
 | k + 1,M',e=>by
  obtain ⟨M1,h1,h2,h3⟩:=subsF_step e;rw [takeF_other ha _ _ h2];exact subsF_other ha k M1 h1
def inSub (N:Nt) (k:Nat) (x:Int):Nat:=cntI (N.subs.getD k u0).sites x (N.subs.getD k u0).sites.length
def OneSub (N:Nt) (K:Nat) (M:Ms) (x:Int):Prop:=(mkF M (1,x,0)=none /\ ∀ j,j < K -> inSub N j x=0) \/ (∃ u:Nat,u < K /\ mkF M (1,x,0)=some (u:Int) /\ inSub N u x=1 /\ ∀ j,j < K -> j ≠ u -> inSub N j x=0)
theorem subsF_one {N:Nt} {M:Ms} (hM:∀ x,mkF M (1,x,0)=none):∀ k M',subsF N M k=some M' -> (∀ x,OneSub N k M' x) /\ ∀ j,j < k -> mkF M' (1,(N.subs.getD j u0).critical,0)=some (j:Int)
 | 0,M',e=>by injection e with e;subst e;exact ⟨fun x=>.inl ⟨hM x,fun j hj=>by omega⟩,fun j hj=>by omega⟩
 | k + 1,M',e=>by
  obtain ⟨M1,h1,h2,h3⟩:=subsF_step e;obtain ⟨g1,g2⟩:=subsF_one hM k M1 h1;refine ⟨fun x=>?_,fun j hj=>?_⟩
  . have hq:inSub N k x=cntI (N.subs.getD k u0).sites x (N.subs.getD k u0).sites.length:=rfl;rcases takeF_cnt x _ _ h2 with ⟨a1,a2⟩ | ⟨a1,a2,a3⟩
    . rw [<- hq] at a2;rcases g1 x with ⟨b1,b2⟩ | ⟨u,b0,b1,b2,b3⟩
      . exact .inl ⟨by rw [a1];exact b1,fun j hj=>by
         by_cases e:j=k
         . subst e;exact a2
         . exact b2 j (by omega)⟩
      . exact .inr ⟨u,by omega,by rw [a1];exact b1,b2,fun j hj hne=>by
         by_cases e:j=k
         . subst e;exact a2
         . exact b3 j (by omega) hne⟩
    . rw [<- hq] at a3;rcases g1 x with ⟨b1,b2⟩ | ⟨u,b0,b1,b2,b3⟩
      . exact .inr ⟨k,by omega,a2,a3,fun j hj hne=>b2 j (by omega)⟩
      . rw [a1] at b1;cases b1
  . by_cases e:j=k
    . subst e;exact h3
    . exact takeF_keep (g2 j (by omega)) _ _ h2
theorem sitesF_id {N:Nt}:∀ k M,sitesF N k=some M -> (∀ i,i < k -> mkF M (0,(N.sites.getD i s0).id,0)=some (i:Int)) /\ ∀ x,(∀ i,i < k -> (N.sites.getD i s0).id ≠ x) -> mkF M (0,x,0)=none
 | 0,M,e=>by injection e with e;subst e;exact ⟨fun i hi=>by omega,fun x _=>rfl⟩
 | k + 1,M,e=>by
  obtain ⟨M1,h1,h2,h3,h4⟩:=sitesF_step e;obtain ⟨g1,g2⟩:=sitesF_id k M1 h1;subst h4;refine ⟨fun i hi=>?_,fun x hx=>?_⟩
  . by_cases e:i=k
    . subst e;exact mkF_same _ _ _
    . have h5:=g1 i (by omega);rw [mkF_other _ _ (fun e=>by rw [e,h3] at h5;cases h5)];exact h5
  . rw [mkF_other _ _ (fun e=>hx k (by omega) (by have:=congrArg (fun z:Mk=>z.2.1) e;simpa using this.symm))];exact g2 x (fun i hi=>hx i (by omega))
theorem sitesF_iff {N:Nt}:∀ k,(sitesF N k).isSome=true ↔ ∀ i,i < k -> siteB (N.sites.getD i s0)=true /\ ∀ j,j < i -> (N.sites.getD j s0).id ≠ (N.sites.getD i s0).id
 | 0=>⟨fun _ i hi=>by omega,fun _=>rfl⟩
 | k + 1=>by
  constructor
  . intro h i hi
    cases hM:sitesF N (k + 1) with
    | none=>rw [hM] at h;cases h
    | some M =>
     obtain ⟨M1,h1,h2,h3,h4⟩:=sitesF_step hM;by_cases e:i=k
     . subst e;refine ⟨h2,fun j hj e=>?_⟩;have:=(sitesF_id i M1 h1).1 j hj;rw [e,h3] at this
       cases this
     . exact (sitesF_iff k).1 (by rw [h1];rfl) i (by omega)
  . intro h;have hk:=(sitesF_iff k).2 (fun i hi=>h i (by omega))
    cases hM:sitesF N k with
    | none=>rw [hM] at hk;cases hk
    | some M =>
     rw [sitesF,hM];have h3:=(sitesF_id k M hM).2 (N.sites.getD k s0).id (fun i hi=>(h k (by omega)).2 i hi);simp only [(h k (by omega)).1,if_true,putF_new h3];rfl
theorem sitesF_two {N:Nt} (a b:Int):∀ k M,sitesF N k=some M -> mkF M (2,a,b)=none
 | 0,M,h=>by injection h with h;subst h;rfl
 | k + 1,M,h=>by
  obtain ⟨M1,h1,h2,_,h4⟩:=sitesF_step h;subst h4;rw [mkF_other _ _ (mk_neF (by decide))];exact sitesF_two a b k M1 h1
structure Seen (N:Nt) (M:Ms) (s:List Int):Prop where
 mem:∀ x,x ∈ s ↔ (mkF M (1,x,0)).isSome=true
 many:s.length=manyP N M
def Both (N:Nt) (a:Option Ms) (b:Option (List Int)):Prop:=match a,b with
 | none,none=>True
 | some M,some s=>Seen N M s
 | _,_=>False
theorem take_both {N:Nt} {place:Nat} {l:List Int} {M:Ms} {s:List Int} (h:Seen N M s):∀ k,Both N (takeF N place l M k) (rtakeF N l s k)
 | 0=>h
 | k + 1=>by
  have ih:=take_both (place:=place) (l:=l) h k;rw [takeF,rtakeF]
  cases e1:takeF N place l M k with
  | none =>
   cases e2:rtakeF N l s k with
   | none=>trivial
   | some s'=>rw [e1,e2] at ih;exact ih.elim
  | some M' =>
   cases e2:rtakeF N l s k with
   | none=>rw [e1,e2] at ih;exact ih.elim
   | some s' =>
    rw [e1,e2] at ih;have ih:Seen N M' s':=ih;simp only;generalize l.getD k 0=x
    cases hin:inB x 0 ((N.sites.length:Int) - 1) with
    | false=>simp [Both]
    | true =>
     cases hf:mkF M' (1,x,0) with
     | some v =>
      have hm:x ∈ s':=(ih.mem x).2 (by rw [hf];rfl);rw [putF_old hf];simp [hm,Both]
     | none =>
      have hm:x ∉ s':=fun hx=>by have:=(ih.mem x).1 hx;rw [hf] at this;cases this
      rw [putF_new hf];simp only [hm,if_true,not_false_iff,and_self];refine ⟨fun y=>?_,?_⟩
      . by_cases e:y=x
        . subst e;rw [mkF_same];simp
        . rw [mkF_other _ _ (mk_ne1 e),<- ih.mem y];simp [e]
      . rw [manyP_put hin hf,List.length_append,ih.many];rfl
theorem cntI_mem {x:Int} {l:List Int}:∀ k,k <= l.length -> (cntI l x k ≠ 0 ↔ ∃ i,i < k /\ l.getD i 0=x)
 | 0,_=>⟨fun h=>absurd rfl h,fun ⟨i,hi,_⟩=>by omega⟩
 | k + 1,hk=>by
  have ih:=cntI_mem (x:=x) (l:=l) k (by omega);rw [cntI];by_cases e:l.getD k 0=x
  . rw [if_pos e];exact ⟨fun _=>⟨k,by omega,e⟩,fun _=>by omega⟩
  . rw [if_neg e];constructor
    . intro h;obtain ⟨i,hi,he⟩:=ih.1 (by omega);exact ⟨i,by omega,he⟩
    . rintro ⟨i,hi,he⟩;have:i ≠ k:=fun q=>e (by rw [<- q];exact he)
      have:=ih.2 ⟨i,by omega,he⟩;omega
theorem mem_getD {x:Int} {l:List Int}:x ∈ l ↔ ∃ i,i < l.length /\ l.getD i 0=x:=by
 constructor
 . intro h;obtain ⟨i,hi,rfl⟩:=List.getElem_of_mem h;exact ⟨i,hi,by simp [hi]⟩
 . rintro ⟨i,hi,rfl⟩;simp [hi]
theorem cntI_in {x:Int} {l:List Int}:x ∈ l ↔ cntI l x l.length ≠ 0:=by rw [mem_getD,cntI_mem _ (Nat.le_refl _)]
theorem subs_both {N:Nt} {M:Ms} (hM:∀ x,mkF M (1,x,0)=none) (h0:manyP N M=0):∀ k,Both N (subsF N M k) (rsubsF N k)
 | 0=>⟨fun x=>by rw [hM];simp,by rw [h0];rfl⟩
 | k + 1=>by
  have ih:=subs_both hM h0 k;rw [subsF,rsubsF]
  cases e1:subsF N M k with
  | none =>
   cases e2:rsubsF N k with
   | none=>trivial
   | some s'=>rw [e1,e2] at ih;exact ih.elim
  | some M1 =>
   cases e2:rsubsF N k with
   | none=>rw [e1,e2] at ih;exact ih.elim
   | some s1 =>
    rw [e1,e2] at ih;have ih:Seen N M1 s1:=ih;simp only;have ht:=take_both (place:=k) (l:=(N.subs.getD k u0).sites) ih (N.subs.getD k u0).sites.length
    cases e3:takeF N k (N.subs.getD k u0).sites M1 (N.subs.getD k u0).sites.length with
    | none =>
     cases e4:rtakeF N (N.subs.getD k u0).sites s1 (N.subs.getD k u0).sites.length with
     | none=>trivial
     | some s'=>rw [e3,e4] at ht;exact ht.elim
    | some M2 =>
     cases e4:rtakeF N (N.subs.getD k u0).sites s1 (N.subs.getD k u0).sites.length with
     | none=>rw [e3,e4] at ht;exact ht.elim
     | some s2 =>
      rw [e3,e4] at ht;simp only
      have hc:mkF M2 (1,(N.subs.getD k u0).critical,0)=some (k:Int) ↔ (N.subs.getD k u0).critical ∈ (N.subs.getD k u0).sites:=by
       rw [cntI_in];rcases takeF_cnt (N.subs.getD k u0).critical _ _ e3 with ⟨a1,a2⟩ | ⟨a1,a2,a3⟩
       . rw [a2,a1];refine ⟨fun h=>?_,fun h=>absurd rfl h⟩;rcases (subsF_one hM k M1 e1).1 (N.subs.getD k u0).critical with ⟨b1,_⟩ | ⟨u,b0,b1,_⟩
         . rw [b1] at h;cases h
         . rw [b1] at h;injection h with h;omega
       . rw [a2,a3];exact ⟨fun _=>by omega,fun _=>rfl⟩
      by_cases hcc:(N.subs.getD k u0).critical ∈ (N.subs.getD k u0).sites
      . rw [if_pos hcc,if_pos (hc.2 hcc)];exact ht
      . rw [if_neg hcc,if_neg (fun q=>hcc (hc.1 q))];trivial
theorem placed_iff {N:Nt} {M:Ms}:placedB N M=true ↔ manyP N M=N.sites.length:=by
 unfold placedB manyP;rw [allB_iff];have h:=List.countP_eq_length (p:=fun i:Nat=>(mkF M (1,(i:Int),0)).isSome) (l:=List.range N.sites.length);rw [List.length_range] at h;rw [h];simp
theorem wedsF_key {N:Nt} {M:Ms} (hM:∀ a b,mkF M (2,a,b)=none) (a b:Int):∀ k M',wedsF N M k=some M' -> ((mkF M' (2,a,b)).isSome=true ↔ ∃ i,i < k /\ (N.weds.getD i d0).a=a /\ (N.weds.getD i d0).b=b)
 | 0,M',e=>by injection e with e;subst e;rw [hM];simp
 | k + 1,M',e=>by
  obtain ⟨M1,h1,h2,h3,h4,h5,h6,h7⟩:=wedsF_step e;have ih:=wedsF_key hM a b k M1 h1;subst h5;by_cases e:((2,a,b):Mk)=(2,(N.weds.getD k d0).a,(N.weds.getD k d0).b)
  . have ea:=congrArg (fun z:Mk=>z.2.1) e;have eb:=congrArg (fun z:Mk=>z.2.2) e;simp only at ea eb;rw [e,mkF_same];exact ⟨fun _=>⟨k,by omega,ea.symm,eb.symm⟩,fun _=>rfl⟩
  . rw [mkF_other _ _ e,ih];constructor
    . rintro ⟨i,hi,h⟩;exact ⟨i,by omega,h⟩
    . rintro ⟨i,hi,h⟩;have:i ≠ k:=fun q=>e (by rw [<- q,h.1,h.2])
      exact ⟨i,by omega,h⟩
theorem rwedB_iff {N:Nt} {i:Nat}:rwedB N i=true ↔ (inB (N.weds.getD i d0).a 0 ((N.subs.length:Int) - 1)=true /\ inB (N.weds.getD i d0).b ((N.weds.getD i d0).a + 1) ((N.subs.length:Int) - 1)=true) /\ (timeB (N.weds.getD i d0).votes=true /\ offsetsB N (N.weds.getD i d0).offsets=true) /\ ∀ k,k < i -> ¬ ((N.weds.getD k d0).a=(N.weds.getD i d0).a /\ (N.weds.getD k d0).b=(N.weds.getD i d0).b):=by
 unfold rwedB;simp only [Bool.and_eq_true,decide_eq_true_eq,allB_iff,Bool.not_eq_true',Bool.and_eq_false_iff,decide_eq_false_iff_not,inB_iff];constructor
 . rintro ⟨h1,h2,h3,h4,h5,h6⟩;refine ⟨⟨by omega,by omega⟩,⟨h4,h5⟩,fun k hk ⟨ha,hb⟩=>?_⟩;rcases h6 k hk with h | h
   . exact h ha
   . exact h hb
 . rintro ⟨⟨h1,h2⟩,⟨h4,h5⟩,h6⟩;refine ⟨by omega,by omega,by omega,h4,h5,fun k hk=>?_⟩;by_cases ha:(N.weds.getD k d0).a=(N.weds.getD i d0).a
   . exact .inr (fun hb=>h6 k hk ⟨ha,hb⟩)
   . exact .inl ha
theorem wedsF_iff {N:Nt} {M:Ms} (hM:∀ a b,mkF M (2,a,b)=none):∀ k,(wedsF N M k).isSome=true ↔ ∀ i,i < k -> rwedB N i=true
 | 0=>⟨fun _ i hi=>by omega,fun _=>rfl⟩
 | k + 1=>by
  constructor
  . intro h i hi
    cases hW:wedsF N M (k + 1) with
    | none=>rw [hW] at h;cases h
    | some M' =>
     obtain ⟨M1,h1,h2,h3,h4,h5,h6,h7⟩:=wedsF_step hW;by_cases e:i=k
     . subst e;refine rwedB_iff.2 ⟨⟨h2,h3⟩,⟨h6,h7⟩,fun j hj hq=>?_⟩;have:=(wedsF_key hM _ _ i M1 h1).2 ⟨j,hj,hq⟩;rw [h4] at this
       cases this
     . exact (wedsF_iff hM k).1 (by rw [h1];rfl) i (by omega)
  . intro h;have hk:=(wedsF_iff hM k).2 (fun i hi=>h i (by omega))
    cases hW:wedsF N M k with
    | none=>rw [hW] at hk;cases hk
    | some M1 =>
     obtain ⟨⟨a1,a2⟩,⟨a3,a4⟩,a5⟩:=rwedB_iff.1 (h k (by omega))
     have hf:mkF M1 (2,(N.weds.getD k d0).a,(N.weds.getD k d0).b)=none:=by
      cases e:mkF M1 (2,(N.weds.getD k d0).a,(N.weds.getD k d0).b) with
      | none=>rfl
      | some v =>
       obtain ⟨j,hj,hq⟩:=(wedsF_key hM _ _ k M1 hW).1 (by rw [e];rfl)
       exact absurd hq (a5 j hj)
     rw [wedsF,hW];simp only [a1,a2,a3,a4,Bool.and_self,if_true,putF_new hf];rfl
theorem rnet_eq (N:Nt):rnetB N=netB N:=by
 rw [Bool.eq_iff_iff];unfold rnetB netB;rw [Bool.and_eq_true,Bool.and_eq_true,Bool.and_eq_true];constructor
 . rintro ⟨ho,hs,hu,hw⟩;unfold rownB at ho;unfold rsubsB at hu;unfold rwedsB at hw;rw [Bool.and_eq_true] at hu hw;simp only [Bool.and_eq_true] at ho;obtain ⟨o1,o2,o3,o4,o5,o6⟩:=ho;rw [allB_iff] at hs
   have hs':∀ i,i < N.sites.length -> siteB (N.sites.getD i s0)=true /\ ((N.sites.getD i s0).low <= N.low /\ N.high <= (N.sites.getD i s0).high) /\ ∀ j,j < i -> (N.sites.getD j s0).id ≠ (N.sites.getD i s0).id:=fun i hi=>by
    have:=hs i hi;unfold rsiteB at this;simp only [Bool.and_eq_true,decide_eq_true_eq,allB_iff,Bool.not_eq_true',decide_eq_false_iff_not] at this;exact ⟨this.1,⟨this.2.1,this.2.2.1⟩,this.2.2.2⟩
   have h1:=(sitesF_iff N.sites.length).2 (fun i hi=>⟨(hs' i hi).1,(hs' i hi).2.2⟩)
   cases e1:sitesF N N.sites.length with
   | none=>rw [e1] at h1;cases h1
   | some M1 =>
    have hn1:∀ x,mkF M1 (1,x,0)=none:=fun x=>sitesF_one x _ _ e1
    have hm0:manyP N M1=0:=by
     unfold manyP;rw [List.countP_eq_zero];intro i _;rw [hn1]
     decide
    have hb:=subs_both hn1 hm0 N.subs.length
    cases e2:rsubsF N N.subs.length with
    | none=>rw [e2] at hu;cases hu.2
    | some s =>
     rw [e2] at hu hb
     cases e3:subsF N M1 N.subs.length with
     | none=>rw [e3] at hb;exact hb.elim
     | some M2 =>
      rw [e3] at hb;have hb:Seen N M2 s:=hb;have hp:placedB N M2=true:=placed_iff.2 (by rw [<- hb.many];exact of_decide_eq_true hu.2)
      have hc:ncyclesB N=true:=by
       unfold ncyclesB;simp only [Bool.and_eq_true,allB_iff];exact ⟨⟨⟨⟨⟨o2,o3⟩,o4⟩,o5⟩,o6⟩,fun i hi=>⟨decide_eq_true (hs' i hi).2.1.1,decide_eq_true (hs' i hi).2.1.2⟩⟩
      have h2:∀ a b,mkF M2 (2,a,b)=none:=fun a b=>by rw [subsF_other (by decide) _ _ e3];exact sitesF_two a b _ _ e1
      have hcn:ncountsB N=true:=by unfold ncountsB;rw [o1,hu.1,hw.1];rfl
      unfold lookF;rw [if_pos hcn,e1];simp only [e3];rw [if_pos (by rw [hp,hc];rfl)];exact (wedsF_iff h2 _).2 (allB_iff.1 hw.2)
 . intro h
   cases hl:lookF N with
   | none=>rw [hl] at h;cases h
   | some M =>
    obtain ⟨hc,M1,M2,h1,h2,h3,h4,h5⟩:=lookF_parts hl;unfold ncountsB at hc;rw [Bool.and_eq_true,Bool.and_eq_true] at hc;have hn1:∀ x,mkF M1 (1,x,0)=none:=fun x=>sitesF_one x _ _ h1
    have hm0:manyP N M1=0:=by
     unfold manyP;rw [List.countP_eq_zero];intro i _;rw [hn1]
     decide
    have hb:=subs_both hn1 hm0 N.subs.length;rw [h2] at hb;have h6:∀ a b,mkF M2 (2,a,b)=none:=fun a b=>by rw [subsF_other (by decide) _ _ h2];exact sitesF_two a b _ _ h1
    unfold ncyclesB at h4;simp only [Bool.and_eq_true,allB_iff] at h4;obtain ⟨⟨⟨⟨⟨o2,o3⟩,o4⟩,o5⟩,o6⟩,o7⟩:=h4;refine ⟨?_,?_,?_,?_⟩
    . unfold rownB;rw [hc.1.1,o2,o3,o4,o5,o6];rfl
    . rw [allB_iff];intro i hi;have hi1:=(sitesF_iff N.sites.length).1 (by rw [h1];rfl) i hi;unfold rsiteB;simp only [Bool.and_eq_true,allB_iff,Bool.not_eq_true',decide_eq_false_iff_not];exact ⟨hi1.1,(o7 i hi).1,(o7 i hi).2,hi1.2⟩
    . unfold rsubsB;rw [hc.1.2]
      cases e2:rsubsF N N.subs.length with
      | none=>rw [e2] at hb;exact hb.elim
      | some s =>
       rw [e2] at hb;have hb:Seen N M2 s:=hb;simp only [Bool.true_and];exact decide_eq_true (by rw [hb.many];exact placed_iff.1 h3)
    . unfold rwedsB;rw [hc.2,Bool.true_and,allB_iff];exact (wedsF_iff h6 _).1 (by rw [h5];rfl)
def rnetE (N:Nt):Int:=if rnetB N=true then 0 else 60
theorem rnetE_eq (N:Nt):rnetE N=netE N:=by unfold rnetE netE;rw [rnet_eq]
end
end Go.Proofs.YtakilpnbjihibaaGreatDoor
