import Derived.Test.YtakilpnbjihibaaGreatDoorP24
import Derived.Test.YtakilpnbjihibaaGreatDoorP25
namespace Go.Proofs.YtakilpnbjihibaaGreatDoor
set_option linter.unusedVariables false
set_option linter.unusedSimpArgs false
set_option maxHeartbeats 16000000
set_option maxRecDepth 100000
open Go.RowKit Go.Lib Go.Deep
structure Sl170 where
 (u0 u1 u2 u3 u4 u5 u6 u7 u8 u9 u10 u11 u12 u13 u14 u15 u16 u17 u18 u19 u20 u21 u22 u23 u24 u25 u26 u27 u28 u29 u30 u31 u32 u33 u34 u35 u36 u37 u38 u39 u40 u41 u42 u43 u44 u45 u46 u47 u48 u49 u50 u51 u52 u53 u54 u55 u56 u57 u58 u59 u60 u61 u62 u63 u64 u65 u66 u67 u68 u69 u70 u71 u72 u73 u74 u75 u76 u77 u78 u79 u80 u81 u82 u83 u84 u85 u86 u87 u88 u89 u90 u91 u92 u93 u94 u95 u96 u97 u98 u99 u100 u101 u102 u103 u104 u105 u106 u107 u108 u109 u110 u111 u112 u113 u114 u115 u116 u117 u118 u119 u120 u121 u122 u123 u124 u125 u126 u127 u128 u129 u130 u131 u132 u133 u134 u135 u136 u137 u138 u139 u140 u141 u142 u143 u144 u145 u146 u147 u148 u149 u150 u151 u152 u153 u154 u155 u156 u157 u158 u159 u160 u161 u162 u163 u164 u165 u166 u167 u168 u169:Value)
def Fr6 (v0 v2 v4 v5:Value) (a:Act):Prop:=∃ u:Sl170,a = { tmps:=#[v0,u.u1,v2,u.u3,v4,v5,u.u6,u.u7,u.u8,u.u9,u.u10,u.u11,u.u12,u.u13,u.u14,u.u15,u.u16,u.u17,u.u18,u.u19,u.u20,u.u21,u.u22,u.u23,u.u24,u.u25,u.u26,u.u27,u.u28,u.u29,u.u30,u.u31,u.u32,u.u33,u.u34,u.u35,u.u36,u.u37,u.u38,u.u39,u.u40,u.u41,u.u42,u.u43,u.u44,u.u45,u.u46,u.u47,u.u48,u.u49,u.u50,u.u51,u.u52,u.u53,u.u54,u.u55,u.u56,u.u57,u.u58,u.u59,u.u60,u.u61,u.u62,u.u63,u.u64,u.u65,u.u66,u.u67,u.u68,u.u69,u.u70,u.u71,u.u72,u.u73,u.u74,u.u75,u.u76,u.u77,u.u78,u.u79,u.u80,u.u81,u.u82,u.u83,u.u84,u.u85,u.u86,u.u87,u.u88,u.u89,u.u90,u.u91,u.u92,u.u93,u.u94,u.u95,u.u96,u.u97,u.u98,u.u99,u.u100,u.u101,u.u102,u.u103,u.u104,u.u105,u.u106,u.u107,u.u108,u.u109,u.u110,u.u111,u.u112,u.u113,u.u114,u.u115,u.u116,u.u117,u.u118,u.u119,u.u120,u.u121,u.u122,u.u123,u.u124,u.u125,u.u126,u.u127,u.u128,u.u129,u.u130,u.u131,u.u132,u.u133,u.u134,u.u135,u.u136,u.u137,u.u138,u.u139,u.u140,u.u141,u.u142,u.u143,u.u144,u.u145,u.u146,u.u147,u.u148,u.u149,u.u150,u.u151,u.u152,u.u153,u.u154,u.u155,u.u156,u.u157,u.u158,u.u159,u.u160,u.u161,u.u162,u.u163,u.u164,u.u165,u.u166,u.u167,u.u168,u.u169],defers:=[] }
def RetB (w:World) (R:Nat) (L:List Nat) (a:Act) (wx:World):Prop:=(∃ u:Sl170,a = { tmps:=#[u.u0,u.u1,(.pointer (some ⟨R,0,none⟩)),(.int .i64 8),u.u4,u.u5,u.u6,u.u7,u.u8,u.u9,u.u10,u.u11,u.u12,u.u13,u.u14,u.u15,u.u16,u.u17,u.u18,u.u19,u.u20,u.u21,u.u22,u.u23,u.u24,u.u25,u.u26,u.u27,u.u28,u.u29,u.u30,u.u31,u.u32,u.u33,u.u34,u.u35,u.u36,u.u37,u.u38,u.u39,u.u40,u.u41,u.u42,u.u43,u.u44,u.u45,u.u46,u.u47,u.u48,u.u49,u.u50,u.u51,u.u52,u.u53,u.u54,u.u55,u.u56,u.u57,u.u58,u.u59,u.u60,u.u61,u.u62,u.u63,u.u64,u.u65,u.u66,u.u67,u.u68,u.u69,u.u70,u.u71,u.u72,u.u73,u.u74,u.u75,u.u76,u.u77,u.u78,u.u79,u.u80,u.u81,u.u82,u.u83,u.u84,u.u85,u.u86,u.u87,u.u88,u.u89,u.u90,u.u91,u.u92,u.u93,u.u94,u.u95,u.u96,u.u97,u.u98,u.u99,u.u100,u.u101,u.u102,u.u103,u.u104,u.u105,u.u106,u.u107,u.u108,u.u109,u.u110,u.u111,u.u112,u.u113,u.u114,u.u115,u.u116,u.u117,u.u118,u.u119,u.u120,u.u121,u.u122,u.u123,u.u124,u.u125,u.u126,u.u127,u.u128,u.u129,u.u130,u.u131,u.u132,u.u133,u.u134,u.u135,u.u136,u.u137,u.u138,u.u139,u.u140,u.u141,u.u142,u.u143,u.u144,u.u145,u.u146,u.u147,u.u148,u.u149,u.u150,u.u151,u.u152,u.u153,u.u154,u.u155,u.u156,u.u157,u.u158,u.u159,u.u160,u.u161,u.u162,u.u163,u.u164,u.u165,u.u166,u.u167,u.u168,u.u169],defers:=[] }) /\ nreadB L=false /\ Kept w wx none /\ wx.cell? ⟨R,0,none⟩=some (.slice none 0 0) /\ wx.cell? ⟨R,1,none⟩=some (.slice none 0 0) /\ wx.cell? ⟨R,2,none⟩=some (.slice none 0 0) /\ wx.cell? ⟨R,3,none⟩=some (.int .i64 0) /\ wx.cell? ⟨R,4,none⟩=some (.int .i64 0) /\ wx.cell? ⟨R,5,none⟩=some (.int .i64 0)
theorem retb_post {w wx:World} {R:Nat} {L:List Nat} {a:Act} (h:RetB w R L a wx):bodyPost Tryz.prog Tryz.f9 (fun e w'=>NReadP w L e w') .ret a wx:=by
 obtain ⟨⟨u,rfl⟩,hB,hk,q0,q1,q2,q3,q4,q5⟩:=h;refine bodyPost_ret (v:=.tuple #[netV Y0 N0,.int .i64 8]) (by simp [results,Tryz.results9,go_sem,Y0,N0,q0,q1,q2,q3,q4,q5]) rfl ?_;exact ⟨hk,.inr ⟨hB,rfl⟩⟩
def ExR (id:Nat) (P Q:Act -> World -> Prop):Exit -> Act -> World -> Prop
 | .exit j,a,w=>j=id /\ P a w
 | .ret,a,w=>Q a w
 | _,_,_=>False
theorem ExR.out {id:Nat} {P Q:Act -> World -> Prop} {e:Exit} {a:Act} {w:World} (h:ExR id P Q e a w):(e=.exit id /\ P a w) \/ (e=.ret /\ Q a w):=by
 cases e with
 | exit j=>exact .inl ⟨by rw [h.1],h.2⟩
 | ret=>exact .inr ⟨rfl,h⟩
 | _=>exact h.elim
structure Nst (w wr:World) (b R G:Nat) (s':Rd) (c:Array Value):Prop where
 kept:Kept w wr none
 rd:Drd wr G b s'
 rb:wr.rowIs R 26 6 (fS zN)
 gb:wr.rowIs G 26 6 (fS c)
 hR:w.heap.size <= R
 Rb:R < b
 bG:b < G
 Gz:G < wr.heap.size
theorem Nst.num {w wr w':World} {b R G:Nat} {s' s2:Rd} {c:Array Value} (h:Nst w wr b R G s' c) (k:Kept wr w' (some b)) (hd:Drd w' G b s2):Nst w w' b R G s2 c:=by
 have h3:=h.hR;have h4:=h.Rb;have h5:=h.bG;exact ⟨kept_two h.kept k (fun g e=>by injection e with e;exact .inr (by omega)),hd,row_kept h.rb k (fun e=>by injection e with e;omega),row_kept h.gb k (fun e=>by injection e with e;omega),h.hR,h.Rb,h.bG,Nat.lt_of_lt_of_le h.Gz k.size⟩
theorem Nst.row {w wr w':World} {b R G:Nat} {s':Rd} {c:Array Value} {r:Option Nat} (h:Nst w wr b R G s' c) (k:Kept wr w' r) (hr:∀ g,r=some g -> G < g):Nst w w' b R G s' c:=by
 have h3:=h.hR;have h4:=h.Rb;have h5:=h.bG;exact ⟨kept_two h.kept k (fun g e=>by have:=hr g e;exact .inr (by omega)),h.rd.kept k (fun g e=>by have:=hr g e;omega),row_kept h.rb k (fun e=>by have:=hr R e.symm;omega),row_kept h.gb k (fun e=>by have:=hr G e.symm;omega),h.hR,h.Rb,h.bG,Nat.lt_of_lt_of_le h.Gz k.size⟩
theorem Nst.put {w wr:World} {b R G:Nat} {s':Rd} {c:Array Value} (h:Nst w wr b R G s' c) (j:Nat) (v:Value) (hj:j < c.size):Nst w (wr.setCell ⟨G,j,none⟩ v) b R G s' (c.setIfInBounds j v):=by
 have h3:=h.hR;have h4:=h.Rb;have h5:=h.bG;exact ⟨kept_two h.kept (dkept_set wr G j v) (fun g e=>by injection e with e;exact .inr (by omega)),h.rd.kept (dkept_set wr G j v) (fun g e=>by injection e with e;omega),h.rb.setOther (by show R ≠ G;omega) v,(h.gb.set j v).congr (fun i _=>fS_set c j v hj i),h.hR,h.Rb,h.bG,by simpa [World.setCell] using h.Gz⟩
structure Nit (w wr X:World) (b R G:Nat) (s':Rd) (c:Array Value):Prop where
 st:Nst w X b R G s' c
 it:Stay (G + 1) wr X
theorem Nit.start {w wr:World} {b R G:Nat} {s':Rd} {c:Array Value} (h:Nst w wr b R G s' c):Nit w wr wr b R G s' c:=⟨h,Stay.refl _ _⟩
theorem Nit.num {w wr X X':World} {b R G:Nat} {s' s2:Rd} {c:Array Value} (h:Nit w wr X b R G s' c) (k:Kept X X' (some b)) (hd:Drd X' G b s2):Nit w wr X' b R G s2 c :=
 ⟨h.st.num k hd,h.it.step k (fun g e=>by injection e with e;have:=h.st.bG;exact .inl (by omega))⟩
theorem Nit.new {w wr X X':World} {b R G:Nat} {s':Rd} {c:Array Value} (h:Nit w wr X b R G s' c) (k:Kept X X' none):Nit w wr X' b R G s' c:=⟨h.st.row k (fun g e=>by cases e),h.it.step k (fun g e=>by cases e)⟩
theorem Nit.box {w wr X:World} {b R G:Nat} {s':Rd} {c:Array Value} (h:Nit w wr X b R G s' c) {g:Nat} (hg:wr.heap.size <= g) (hG:G < wr.heap.size) (j:Nat) (v:Value):Nit w wr (X.setCell ⟨g,j,none⟩ v) b R G s' c:=⟨h.st.row (dkept_set X g j v) (fun x e=>by injection e with e;omega),h.it.step (dkept_set X g j v) (fun x e=>by injection e with e;exact .inr (by omega))⟩
theorem Tl.stay {w w':World} {base B:Nat} {e:TypeId} {K k:Nat} {v:Value} {f:Nat -> Nat -> Value} {P:Nat -> World -> Prop} (h:Tl w base B e K k v f P) (q:Stay (B + 1) w w') (hb:B + 1 <= base):Tl w' base B e K k v f P :=
 ⟨own_stay h.own ⟨q.size,fun i h1 h2=>q.block i (by omega) h2⟩,fun i hi w'' r=>h.ok i hi w'' ((⟨q.size,fun i h1 h2 _=>q.block i (by omega) h1⟩:Far2 w w' B v.ownBlock).tr r)⟩
theorem Stay.far {w w':World} {B:Nat} (q:Stay (B + 1) w w') (r:Option Nat):Far2 w w' B r:=⟨q.size,fun i h1 h2 _=>q.block i (by omega) h1⟩
theorem bad6 {w X:World} {b R G:Nat} {s':Rd} {c:Array Value} (h:Nst w X b R G s' c):let WF:=((((((X.setCell ⟨R,0,none⟩ (.slice none 0 0)).setCell ⟨R,1,none⟩ (.slice none 0 0)).setCell ⟨R,2,none⟩ (.slice none 0 0)).setCell ⟨R,3,none⟩ (.int .i64 0)).setCell ⟨R,4,none⟩ (.int .i64 0)).setCell ⟨R,5,none⟩ (.int .i64 0));Kept w WF none /\ WF.cell? ⟨R,0,none⟩=some (.slice none 0 0) /\ WF.cell? ⟨R,1,none⟩=some (.slice none 0 0) /\ WF.cell? ⟨R,2,none⟩=some (.slice none 0 0) /\ WF.cell? ⟨R,3,none⟩=some (.int .i64 0) /\ WF.cell? ⟨R,4,none⟩=some (.int .i64 0) /\ WF.cell? ⟨R,5,none⟩=some (.int .i64 0):=by
 intro WF;obtain ⟨h1,_,h2⟩:=row6Z h.rb h.kept h.hR (Nat.le_refl R) (.slice none 0 0) (.slice none 0 0) (.slice none 0 0) (.int .i64 0) (.int .i64 0) (.int .i64 0);exact ⟨h1,h2⟩
structure Rz (X:World) (R:Nat):Prop where
 m0:X.cell? ⟨R,0,none⟩=some (.slice none 0 0)
 n0:X.frozen? ⟨R,0,none⟩=false
 m1:X.cell? ⟨R,1,none⟩=some (.slice none 0 0)
 n1:X.frozen? ⟨R,1,none⟩=false
 m2:X.cell? ⟨R,2,none⟩=some (.slice none 0 0)
 n2:X.frozen? ⟨R,2,none⟩=false
 m3:X.cell? ⟨R,3,none⟩=some (.int .i64 0)
 n3:X.frozen? ⟨R,3,none⟩=false
 m4:X.cell? ⟨R,4,none⟩=some (.int .i64 0)
 n4:X.frozen? ⟨R,4,none⟩=false
 m5:X.cell? ⟨R,5,none⟩=some (.int .i64 0)
 n5:X.frozen? ⟨R,5,none⟩=false
theorem Nst.rz {w X:World} {b R G:Nat} {s':Rd} {c:Array Value} (h:Nst w X b R G s' c):Rz X R:=⟨h.rb.cell (i:=0) (by omega),h.rb.frozen 0,h.rb.cell (i:=1) (by omega),h.rb.frozen 1,h.rb.cell (i:=2) (by omega),h.rb.frozen 2,h.rb.cell (i:=3) (by omega),h.rb.frozen 3,h.rb.cell (i:=4) (by omega),h.rb.frozen 4,h.rb.cell (i:=5) (by omega),h.rb.frozen 5⟩
theorem Come.takeN {w:World} {a:Option Addr} {n c:Nat} {L:List Nat} (h:Come w a n c L) {z:Nat} (hz:z <= n):Come w a z c (L.take z):=⟨h.by_.take z hz,h.nil,Nat.le_trans hz h.room,h.max⟩
def Fin1 (w:World) (L:List Nat) (m b R G B1:Nat) (wx:World):Prop:=∃ (i:Nat) (l:List St) (X:Nat -> Sa) (s':Rd) (la:Option Addr) (lc:Nat),l.length=i /\ i <= 12 /\ Nst w wx b R G s' #[.slice la i lc,.slice none 0 0,.slice none 0 0,.int .i64 0,.int .i64 0,.int .i64 0] /\ Tl wx B1 G 49 12 i (.slice la i lc) (fun i j=>stV (X i) (l.getD i s0) j) (fun i w'=>Sat w' (X i) (l.getD i s0)) /\ (∀ S ∈ l,siteB S=true /\ Rok S) /\ B1 <= wx.heap.size /\ NSG (L.take m,false) (fun N T=>l=N.sites /\ s'=(nt1 N T,false))
theorem snocS {l:List St} {S:St} {X:Nat -> Sa} {XS:Sa} {i:Nat} (hl:l.length=i):(∀ k,k < i + 1 -> ∀ j,(if k=i then stV XS S j else stV (X k) (l.getD k s0) j)=stV (if k=i then XS else X k) ((l ++ [S]).getD k s0) j) /\ (∀ k,k < i + 1 -> ∀ w,(if k=i then Sat w XS S else Sat w (X k) (l.getD k s0)) -> Sat w (if k=i then XS else X k) ((l ++ [S]).getD k s0)):=by
 subst hl;constructor
 . intro k hk j;by_cases e:k=l.length
   . subst e;simp
   . rw [if_neg e,if_neg e,getD_snocL,if_neg e]
 . intro k hk w h;by_cases e:k=l.length
   . subst e;simpa using h
   . rw [if_neg e] at h;rw [if_neg e,getD_snocL,if_neg e];exact h
theorem rnumbers_at {w:World} {H b:Nat} {s:Rd} (h:Drd w H b s) (hH:H <= w.heap.size) (most:Nat) {M:Int} (hM:M=(most:Int)) (hm:most <= 1000):Calls Tryz.prog 28 #[.pointer (some ⟨b,0,none⟩),.int .i64 M] w fun e w'=>NumR w H b most s e w':=by
 subst hM;exact rnumbers_any h hH most hm
theorem snocU {l:List Sb} {U:Sb} {r:Nat -> Option Addr × Nat} {p:Option Addr × Nat} {i:Nat} (hl:l.length=i):(∀ k,k < i + 1 -> ∀ j,(if k=i then sbV U p.1 p.2 j else sbV (l.getD k u0) (r k).1 (r k).2 j)=sbV ((l ++ [U]).getD k u0) (if k=i then p else r k).1 (if k=i then p else r k).2 j) /\ (∀ k,k < i + 1 -> ∀ w,(if k=i then Ints w p.1 U.sites.length p.2 U.sites else Ints w (r k).1 (l.getD k u0).sites.length (r k).2 (l.getD k u0).sites) -> Ints w (if k=i then p else r k).1 ((l ++ [U]).getD k u0).sites.length (if k=i then p else r k).2 ((l ++ [U]).getD k u0).sites):=by
 subst hl;constructor
 . intro k hk j;by_cases e:k=l.length
   . subst e;simp
   . simp only [if_neg e,getD_snocL]
 . intro k hk w h;by_cases e:k=l.length
   . subst e;simpa using h
   . simp only [if_neg e,getD_snocL] at h ⊢;exact h
theorem snocW {l:List Wd} {U:Wd} {r:Nat -> Option Addr × Nat} {p:Option Addr × Nat} {i:Nat} (hl:l.length=i):(∀ k,k < i + 1 -> ∀ j,(if k=i then wdV U p.1 p.2 j else wdV (l.getD k d0) (r k).1 (r k).2 j)=wdV ((l ++ [U]).getD k d0) (if k=i then p else r k).1 (if k=i then p else r k).2 j) /\ (∀ k,k < i + 1 -> ∀ w,(if k=i then Ints w p.1 U.offsets.length p.2 U.offsets else Ints w (r k).1 (l.getD k d0).offsets.length (r k).2 (l.getD k d0).offsets) -> Ints w (if k=i then p else r k).1 ((l ++ [U]).getD k d0).offsets.length (if k=i then p else r k).2 ((l ++ [U]).getD k d0).offsets):=by
 subst hl;constructor
 . intro k hk j;by_cases e:k=l.length
   . subst e;simp
   . simp only [if_neg e,getD_snocL]
 . intro k hk w h;by_cases e:k=l.length
   . subst e;simpa using h
   . simp only [if_neg e,getD_snocL] at h ⊢;exact h
def Fin2 (w:World) (L:List Nat) (m b R G B2:Nat) (wA:World) (la1:Option Addr) (i1 lc1:Nat) (wx:World):Prop:=∃ (i:Nat) (l:List Sb) (r:Nat -> Option Addr × Nat) (s':Rd) (la:Option Addr) (lc:Nat),l.length=i /\ i <= 6 /\ Nst w wx b R G s' #[.slice la1 i1 lc1,.slice la i lc,.slice none 0 0,.int .i64 0,.int .i64 0,.int .i64 0] /\ Tl wx B2 G 52 2 i (.slice la i lc) (fun i j=>sbV (l.getD i u0) (r i).1 (r i).2 j) (fun i w'=>Ints w' (r i).1 (l.getD i u0).sites.length (r i).2 (l.getD i u0).sites) /\ (∀ U ∈ l,U.sites.length <= 12 /\ i64B U.critical) /\ Stay (G + 1) wA wx /\ B2 <= wx.heap.size /\ NSG (L.take m,false) (fun N T=>l=N.subs /\ s'=(nt2 N T,false))
def Fin3 (w:World) (L:List Nat) (m b R G B3:Nat) (wB:World) (la1:Option Addr) (i1 lc1:Nat) (la2:Option Addr) (i2 lc2 lov hiv stv:Nat) (wx:World):Prop:=∃ (i:Nat) (l:List Wd) (r:Nat -> Option Addr × Nat) (s':Rd) (la:Option Addr) (lc:Nat),l.length=i /\ i <= 8 /\ Nst w wx b R G s' #[.slice la1 i1 lc1,.slice la2 i2 lc2,.slice la i lc,.int .i64 (lov:Int),.int .i64 (hiv:Int),.int .i64 (stv:Int)] /\ Tl wx B3 G 54 4 i (.slice la i lc) (fun i j=>wdV (l.getD i d0) (r i).1 (r i).2 j) (fun i w'=>Ints w' (r i).1 (l.getD i d0).offsets.length (r i).2 (l.getD i d0).offsets) /\ (∀ D ∈ l,D.offsets.length <= 8 /\ i64B D.a /\ i64B D.b /\ i64B D.votes) /\ Stay (G + 1) wB wx /\ B3 <= wx.heap.size /\ NSG (L.take m,false) (fun N T=>l=N.weds /\ s'=(nt3 N T,false))
theorem dnr_long {w:World} {a:Option Addr} {m c:Nat} {L:List Nat} (h:Come w a (m + 4) c L) (hn2:m + 4 <= 20000):Calls Tryz.prog 9 #[.slice a (m + 4:Nat) c] w (NReadP w L):=by
 obtain ⟨blk,off,rfl,hblk,_⟩:=h.by_.at_ (by omega);have hL:=h.by_.size;have hE4:L.length - 4=m:=by omega
 have hroom:=h.room;have hmax:=h.max;have bt:=h.by_.take m (by omega);have HLT:=Hid.mk' h.by_.lt;have HBY:=Hid.mk' h.by_;have kA:Kept w (((w.alloc (.cells zN 26)).alloc (.cells #[.slice (some ⟨blk,off,none⟩) m c,.bool false] 71)).alloc (.cells zN 26)) none:=((Kept.alloc w zN 26 (0,0) none).tr (Kept.alloc _ _ _ (0,0) none)).tr (Kept.alloc _ _ _ (0,0) none);have zA:(w.alloc (.cells zN 26)).heap.size=w.heap.size + 1:=by simp
 have zB:((w.alloc (.cells zN 26)).alloc (.cells #[.slice (some ⟨blk,off,none⟩) m c,.bool false] 71)).heap.size=w.heap.size + 1 + 1:=by simp
 have zC:(((w.alloc (.cells zN 26)).alloc (.cells #[.slice (some ⟨blk,off,none⟩) m c,.bool false] 71)).alloc (.cells zN 26)).heap.size=w.heap.size + 1 + 1 + 1:=by simp
 have qB:=bxK_alloc (w.alloc (.cells zN 26)) #[.slice (some ⟨blk,off,none⟩) m c,.bool false] 71;rw [zA] at qB;have qB3:=row_kept qB (Kept.alloc ((w.alloc (.cells zN 26)).alloc (.cells #[.slice (some ⟨blk,off,none⟩) m c,.bool false] 71)) zN 26 (0,0) none) (by simp);have qG:=nrow ((w.alloc (.cells zN 26)).alloc (.cells #[.slice (some ⟨blk,off,none⟩) m c,.bool false] 71)) zN rfl;rw [zB] at qG;have qR:=row_kept (row_kept (nrow w zN rfl) (Kept.alloc _ #[.slice (some ⟨blk,off,none⟩) m c,.bool false] 71 (0,0) none) (by simp)) (Kept.alloc ((w.alloc (.cells zN 26)).alloc (.cells #[.slice (some ⟨blk,off,none⟩) m c,.bool false] 71)) zN 26 (0,0) none) (by simp);obtain ⟨WA,hWA⟩:∃ WA,(((w.alloc (.cells zN 26)).alloc (.cells #[.slice (some ⟨blk,off,none⟩) m c,.bool false] 71)).alloc (.cells zN 26))=WA:=⟨_,rfl⟩
 rw [hWA] at kA zC qB3 qG qR;have D0:Hid (Nst w WA (w.heap.size + 1) w.heap.size (w.heap.size + 1 + 1) (L.take m,false) zN):=⟨kA,⟨⟨some ⟨blk,off,none⟩,m,c,qB3.cell (i:=0) (by simp),⟨bt.kept kA,fun e=>(nomatch e),by omega,hmax⟩,fun hp x hx=>by injection hx with hx;subst hx;dsimp only;omega⟩,qB3.cell (i:=1) (by simp),qB3.frozen 0,qB3.frozen 1,by omega⟩,qR,qG,Nat.le_refl _,by omega,by omega,by omega⟩;obtain ⟨⟨mN,s1⟩,hu1⟩:∃ u,dnM 12 (L.take m,false)=u:=⟨_,rfl⟩
 have hmN:mN <= 12:=by have:=dnM_le 12 (L.take m,false);rw [hu1] at this;exact this
 have HU1:=Hid.mk' hu1;have HE4:=Hid.mk' hE4;clear h bt kA qB qB3 qG qR zA zB zC hL hE4 hu1;go_enter Tryz.func9,Tryz.ntmps9;go_wp2_with (first | rw [hWA] | (go_at_call 26;refine (rnum_at D0.out.rd 12 (by rfl) (by omega) HU1.out).mono ?_;rintro e w1 ⟨rfl,hd1,hk1⟩;have D1:=Hid.mk' (D0.out.num hk1 hd1)))
 have hNS:Hid (NSG (L.take m,false) (fun N T=>mN=N.sites.length /\ s1=(N.sites.flatMap nen ++ nt1 N T,false))):=fun N T hN hs=>by
  have e1:=HU1.out;rw [hs,netL_tl,dn_fwd (by omega) hN.sn] at e1;injection e1 with a1 a2;exact ⟨a1.symm,a2.symm⟩
 have HLG0:Hid (NLG Nt.sites nen nt1 (L.take m,false) 0 [] s1):=fun N T hN hs=>⟨Nat.zero_le _,rfl,(hNS.out N T hN hs).2⟩
 have HN1:Hid (NSG (L.take m,false) (fun N _=>mN=N.sites.length)):=fun N T hN hs=>(hNS.out N T hN hs).1
 obtain ⟨R,hRe⟩:∃ R,R=w.heap.size:=⟨_,rfl⟩
 obtain ⟨b,hbe⟩:∃ b,b=w.heap.size + 1:=⟨_,rfl⟩
 obtain ⟨G,hGe⟩:∃ G,G=w.heap.size + 1 + 1:=⟨_,rfl⟩
 rw [<- hGe,<- hbe,<- hRe] at D1;rw [<- hGe,<- hbe,<- hRe];clear hRe hbe hGe D0 hWA HU1 hNS hd1 hk1;have hGz1:=D1.out.Gz;obtain ⟨B1,hB1⟩:∃ B,B=w1.heap.size:=⟨_,rfl⟩
 have hBG1:G + 1 <= B1:=by omega
 have HB1:=Hid.mk' hB1;clear hB1;refine Code.wp_mono (Q:=ExR 0 (fun a wx=>Fr6 (.slice (some ⟨blk,off,none⟩) (m + 4) c) (.pointer (some ⟨R,0,none⟩)) (.pointer (some ⟨b,0,none⟩)) (.pointer (some ⟨G,0,none⟩)) a /\ Fin1 w L m b R G B1 wx) (RetB w R L)) ?cont1 ?loop1
 case loop1 =>
  repeat (rename_i hh;clear hh)
  go_loopw [7] (fun iv wr=>∃ (i:Nat) (l:List St) (X:Nat -> Sa) (s':Rd) (la:Option Addr) (lc:Nat),l.length=i /\ i <= mN /\ iv=.int .i64 i /\ Nst w wr b R G s' #[.slice la i lc,.slice none 0 0,.slice none 0 0,.int .i64 0,.int .i64 0,.int .i64 0] /\ Tl wr B1 G 49 12 i (.slice la i lc) (fun i j=>stV (X i) (l.getD i s0) j) (fun i w'=>Sat w' (X i) (l.getD i s0)) /\ (∀ S ∈ l,siteB S=true /\ Rok S) /\ B1 <= wr.heap.size /\ NLG Nt.sites nen nt1 (L.take m,false) i l s') (fun iv _=>mN - (intOf iv).toNat)
  case atStart=>exact ⟨0,[],fun _=>sa00,_,none,0,rfl,Nat.zero_le _,rfl,D1.out,Tl.start _ _ _ _ _ _ _,by simp,by have:=HB1.out;omega,HLG0.out⟩
  case round =>
   obtain ⟨i,l,X,⟨L',bd⟩,la,lc,hil,hin,rfl,hD,hT,hty,hBw,hG⟩:=hrel;have DD:=Hid.mk' hD;have TT:=Hid.mk' hT;have TY:=Hid.mk' hty;have GG:=Hid.mk' hG;have IL:=Hid.mk' hil;have hc1:=hD.rd.c1;have hGz:=hD.Gz;have hbG:=hD.bG;have hRb:=hD.Rb;clear hD hT hty hG hil;by_cases hgo:i < mN /\ bd=false
   . obtain ⟨hlt,rfl⟩:=hgo;have hii:(i:Int) < (mN:Int):=by omega
     obtain ⟨⟨z,⟨L1,bd1⟩⟩,hu0⟩:∃ u,dnM (m + 4) (L',false)=u:=⟨_,rfl⟩
     have hzle:z <= m + 4:=by have:=dnM_le (m + 4) (L',false);rw [hu0] at this;exact this
     have HV0:=Hid.mk' hu0;clear hu0;go_wp2_with (fail);go_at_call 26;refine (rnum_at DD.out.rd (m + 4) (by rfl) (by omega) HV0.out).mono ?_;rintro e x0 ⟨rfl,hd0,hk0⟩;have hz0:=hk0.size;have I1:=Hid.mk' ((Nit.start DD.out).num hk0 hd0);obtain ⟨ar,nr,cr,hrc,hcm,hxr⟩:=hd0.ex;have f0r:=hd0.f0;have hnr:=hcm.by_.size;have hrm:=hcm.max;have hrr:=hcm.room;dsimp only at hcm hnr;have HCM:=Hid.mk' hcm;have HXR:=Hid.mk' hxr;have HNR:=Hid.mk' hnr;have HD0:=Hid.mk' hd0;clear hcm hxr hnr hd0;by_cases hzn:z <= nr
     . have hzi:¬ ((nr:Int) < (z:Int)):=by omega
       by_cases hp:0 < nr
       . obtain ⟨rb,ro,rfl,_,_⟩:=HCM.out.by_.at_ hp;have HCT:=Hid.mk' (HCM.out.takeN hzn);have HR1:=Hid.mk' (fun hr=>sround_none HLT.out HE4.out (Nat.le_add_right _ 4) hn2 GG.out HN1.out hlt HV0.out hr);have NX:=Hid.mk' (sround_next HE4.out (Nat.le_add_right _ 4) hn2 GG.out HN1.out hlt HV0.out);have HPL:Hid (∀ x ∈ L1.take z,x < 256):=fun x hx=>HCM.out.by_.lt x (List.mem_of_mem_take hx)
         go_wp2_with (fail);go_at_call 27;refine (dread_any HCT.out).mono ?_;rintro e x1 ⟨hk1,⟨hr,X1,rfl,hs⟩ | ⟨hr,rfl⟩⟩
         . have hy:=dread_yes HPL.out hr;have hsk:=hy.2.2;have hrk:=rok_read HPL.out hr;have hb1:=sbox_alloc (hs x1 (Stay.refl _ _)) 49;have hkW:Kept x1 (x1.alloc (.cells #[.int .i64 (readS (L1.take z)).id,.slice X1.g (readS (L1.take z)).groups.length X1.gc,.slice X1.a (readS (L1.take z)).apart.length X1.ac,.slice X1.b (readS (L1.take z)).between.length X1.bc,.slice X1.p (readS (L1.take z)).phases.length X1.pc,.slice X1.e (readS (L1.take z)).eyes.length X1.ec,.int .i64 (readS (L1.take z)).watch,.int .i64 (readS (L1.take z)).feed,.int .i64 (readS (L1.take z)).heal,.int .i64 (readS (L1.take z)).low,.int .i64 (readS (L1.take z)).high,.slice X1.l (readS (L1.take z)).plans.length X1.lc] 49)) none:=Kept.alloc _ _ _ (0,0) none;generalize readS (L1.take z)=S at *;have hz1:=hk1.size;obtain ⟨WB,hWB⟩:∃ WB,x1.alloc (.cells (cs9 X1 S) 49)=WB:=⟨_,rfl⟩
           rw [hWB] at hb1 hkW;have hz2:=hkW.size;have I2:=Hid.mk' ((I1.out.new hk1).new hkW);have k0:=hb1.c0;have k1:=hb1.c1;have k2:=hb1.c2;have k3:=hb1.c3;have k4:=hb1.c4;have k5:=hb1.c5;have k6:=hb1.c6;have k7:=hb1.c7;have k8:=hb1.c8;have k9:=hb1.c9;have k10:=hb1.c10;have k11:=hb1.c11;have gj:WB.cell? ⟨G,0,none⟩=some (.slice la i lc):=I2.out.st.gb.cell (i:=0) (by omega);have hlow:∀ g,(Value.slice la i lc).ownBlock=some g -> g < wr.heap.size:=fun g e=>(own_lt TT.out.own g e).2
           have hlo2:∀ g,(Value.slice la i lc).ownBlock=some g -> B1 <= g:=fun g e=>(own_lt TT.out.own g e).1
           obtain ⟨i0,hi0,hz0',hz1',hz2'⟩:=info_parts Tryz.infoSi
           obtain ⟨a5,c5,W5,hr5,hT5,hk5,_⟩:=(TT.out.stay I2.out.it hBG1).step (t:=22) Tryz.uSis hi0 hz0' hz1' hz2' rfl (by omega) (by omega) (by have:=IL.out;omega) (by omega) (by omega) (Kept.refl WB none) (cs:=(cs9 X1 S)) (g:=fun j=>stV X1 S j) (fun j hj=>by
            have:j=0 \/ j=1 \/ j=2 \/ j=3 \/ j=4 \/ j=5 \/ j=6 \/ j=7 \/ j=8 \/ j=9 \/ j=10 \/ j=11:=by omega
            rcases this with rfl | rfl | rfl | rfl | rfl | rfl | rfl | rfl | rfl | rfl | rfl | rfl <;> rfl) (fun j=>by unfold stV;split <;> rfl) (Pk:=fun w'=>Sat w' X1 S) (fun w'' q=>hs w'' ⟨Nat.le_trans hz2 q.size,fun y h1 h2=>by
             have e1:=hkW.block y h2 (by simp);rw [<- e1];exact q.block y (by omega) (by omega) (fun e=>by have:=hlow y e.symm;omega)⟩)
           have HR:=Hid.mk' hr5;have T5:=Hid.mk' (hT5 0);have D5:=Hid.mk' (I2.out.st.row hk5 (fun g e=>by have:=hlo2 g e;omega));have hz5:=hk5.size;have gw:W5.cell? ⟨G,0,none⟩=some (.slice la i lc):=D5.out.gb.cell (i:=0) (by omega);have fw:=D5.out.gb.frozen 0
           have D6:Hid (Nst w (W5.setCell ⟨G,0,none⟩ (.slice a5 (i + 1:Nat) c5)) b R G (L1,bd1) #[.slice a5 (i + 1:Nat) c5,.slice none 0 0,.slice none 0 0,.int .i64 0,.int .i64 0,.int .i64 0]):=by
            show Nst _ _ _ _ _ _ _
            simpa only [List.setIfInBounds_toArray,List.set_cons_zero,List.set_cons_succ] using D5.out.put 0 (.slice a5 (i + 1:Nat) c5) (by simp)
           have hrB:(W5.setCell ⟨G,0,none⟩ (.slice a5 (i + 1:Nat) c5)).cell? ⟨b,0,none⟩=some (.slice (some ⟨rb,ro,none⟩) nr cr):=(World.cell?_setCell_far _ _ _ _ (by show G ≠ b;omega)).trans ((cell_keptR (cell_kept0 (cell_kept0 hrc hk1) hkW) hk5 (fun e=>by have:=hlo2 b e.symm;omega)));have hfB:(W5.setCell ⟨G,0,none⟩ (.slice a5 (i + 1:Nat) c5)).frozen? ⟨b,0,none⟩=false:=D6.out.rd.f0
           have hkC:Come (W5.setCell ⟨G,0,none⟩ (.slice a5 (i + 1:Nat) c5)) (some ⟨rb,ro,none⟩) nr cr L1:=by
            obtain ⟨a9,n9,c9,q1,q2,_⟩:=D6.out.rd.ex;rw [hrB] at q1;injection q1 with q1;injection q1 with e1 e2 e3;subst e1 e2 e3;exact q2
           have HKC:=Hid.mk' hkC;clear hr5 hT5 hk5 hkC hb1 hs;obtain ⟨W6,hW6⟩:∃ W6,W5.setCell ⟨G,0,none⟩ (.slice a5 (i + 1:Nat) c5)=W6:=⟨_,rfl⟩
           rw [hW6] at T5 D6 hrB hfB HKC;have hsz6:W5.heap.size=W6.heap.size:=by rw [<- hW6];simp [World.setCell]
           have hXn:=snocS (l:=l) (S:=S) (X:=X) (XS:=X1) IL.out;have TN:Hid (Tl W6 B1 G 49 12 (i + 1) (.slice a5 (i + 1:Nat) c5) (fun k j=>stV (if k=i then X1 else X k) ((l ++ [S]).getD k s0) j) (fun k w'=>Sat w' (if k=i then X1 else X k) ((l ++ [S]).getD k s0))):=T5.out.congr hXn.1 hXn.2 (by omega)
           have TY2:Hid (∀ Q ∈ l ++ [S],siteB Q=true /\ Rok Q):=fun Q hQ=>by
            rcases List.mem_append.1 hQ with q | q
            . exact TY.out Q q
            . simp at q;subst q;exact ⟨hsk,hrk⟩
           have hl2:(l ++ [S]).length=i + 1:=by rw [List.length_append,IL.out];rfl
           have HL2:=Hid.mk' hl2
           have hfin:∀ (ax:Option Addr) (nx cx:Nat),Come W6 ax nx cx (L1.drop z) -> (0 < nx -> ∀ x,ax=some x -> x.block < G /\ x.block ≠ b) -> Nst w (W6.setCell ⟨b,0,none⟩ (.slice ax nx cx)) b R G (L1.drop z,bd1) #[.slice a5 (i + 1:Nat) c5,.slice none 0 0,.slice none 0 0,.int .i64 0,.int .i64 0,.int .i64 0] /\ Tl (W6.setCell ⟨b,0,none⟩ (.slice ax nx cx)) B1 G 49 12 (i + 1) (.slice a5 (i + 1:Nat) c5) (fun k j=>stV (if k=i then X1 else X k) ((l ++ [S]).getD k s0) j) (fun k w'=>Sat w' (if k=i then X1 else X k) ((l ++ [S]).getD k s0)) /\ B1 <= (W6.setCell ⟨b,0,none⟩ (.slice ax nx cx)).heap.size:=fun ax nx cx hc hx=>by
            refine ⟨D6.out.num (dkept_set _ _ _ _) (D6.out.rd.set hc hx),TN.out.stay ((Stay.refl _ _).step (dkept_set _ _ _ _) (fun g e=>by injection e with e;exact .inl (by omega))) hBG1,?_⟩;have:(W6.setCell ⟨b,0,none⟩ (.slice ax nx cx)).heap.size=W6.heap.size:=by simp [World.setCell]
            omega
           have HFIN:=Hid.mk' hfin;clear hfin hl2 hXn;by_cases hcz:z=cr
           . have hnz:nr=z:=by omega
             have hLd:L1.drop z=[]:=by rw [List.drop_eq_nil_iff];have:=HNR.out;omega
             subst hcz;subst hnz;go_wp2_with (first | rw [hWB] | rw [hW6] | (have hgo:=HR;clear hgo;at_builtin;refine wpList_app (by rfl) _ _ _ (by rfl) (by rfl) (by rfl) HR.out ?_))
             all_goals
              go_roundw
              case rel =>
               obtain ⟨q1,q2,q3⟩:=HFIN.out (some ⟨rb,ro,none⟩) 0 0 (by rw [hLd];exact ⟨By.nil _ _,fun e=>(nomatch e),Nat.le_refl _,by omega⟩) (fun hp=>absurd hp (by omega));exact ⟨i + 1,l ++ [S],_,_,a5,c5,HL2.out,by omega,by go_num,q1,q2,TY2.out,q3,NX.out⟩
              case measure=>simp [intOf];omega
           . have hcz2:¬ cr=z:=fun e=>hcz e.symm
             have hcz3:z < cr:=by omega
             go_wp2_with (first | rw [hWB] | rw [hW6] | (have hgo:=HR;clear hgo;at_builtin;refine wpList_app (by rfl) _ _ _ (by rfl) (by rfl) (by rfl) HR.out ?_));go_roundw
             case rel =>
              obtain ⟨q1,q2,q3⟩:=HFIN.out (some ⟨rb,ro + z,none⟩) (nr - z) (cr - z) ⟨HKC.out.by_.ddrop z hzn,fun e=>(nomatch e),by omega,by omega⟩ (fun hp x hx=>by injection hx with hx;subst hx;exact HXR.out (by omega) ⟨rb,ro,none⟩ rfl);exact ⟨i + 1,l ++ [S],_,_,a5,c5,HL2.out,by omega,by go_num,q1,q2,TY2.out,q3,NX.out⟩
             case measure=>simp [intOf];omega
         . have HB:=Hid.mk' (HR1.out hr);have I2:=Hid.mk' ((I1.out.new hk1).new (Kept.alloc x1 (cs9 X0 S0) 49 (0,0) none));have rz:=I2.out.st.rz;have ⟨m0,n0,m1,n1,m2,n2,m3,n3,m4,n4,m5,n5⟩:=rz;clear rz;go_wp2;exact ⟨⟨(.mk _ _ undef undef ..),rfl⟩,HB.out,bad6 I2.out.st⟩
       . have hz00:z=0:=by omega
         have hr0:nr=0:=by omega
         have hL0:L1=[]:=List.length_eq_zero_iff.1 (by have:=HNR.out;omega);subst hz00;subst hr0;have HB:Hid (nreadB L=false):=sround_none HLT.out HE4.out (Nat.le_add_right _ 4) hn2 GG.out HN1.out hlt HV0.out (by rw [hL0];decide);have HCT:Hid (∀ cx,cx <= 9223372036854775807 -> (ar=none -> cx=0) -> Come x0 ar 0 cx []):=fun cx hc he=>⟨By.nil _ _,he,Nat.zero_le _,hc⟩
         have hnil:=HCM.out.nil
         cases ar with
         | none =>
          have hcr:=hnil rfl;subst hcr;go_wp2_with (fail);go_at_call 27;refine (dread_any (HCT.out 0 (by omega) (fun _=>rfl))).mono ?_;rintro e x1 ⟨hk1,⟨hr,X1,rfl,hs⟩ | ⟨hr,rfl⟩⟩
          . exact absurd hr (by decide)
          . have I2:=Hid.mk' ((I1.out.new hk1).new (Kept.alloc x1 (cs9 X0 S0) 49 (0,0) none));have rz:=I2.out.st.rz;have ⟨m0,n0,m1,n1,m2,n2,m3,n3,m4,n4,m5,n5⟩:=rz;clear rz;go_wp2;exact ⟨⟨(.mk _ _ undef undef ..),rfl⟩,HB.out,bad6 I2.out.st⟩
         | some ad =>
          go_wp2_with (fail);go_at_call 27;refine (dread_any (HCT.out cr (by omega) (fun e=>nomatch e))).mono ?_;rintro e x1 ⟨hk1,⟨hr,X1,rfl,hs⟩ | ⟨hr,rfl⟩⟩
          . exact absurd hr (by decide)
          . have I2:=Hid.mk' ((I1.out.new hk1).new (Kept.alloc x1 (cs9 X0 S0) 49 (0,0) none));have rz:=I2.out.st.rz;have ⟨m0,n0,m1,n1,m2,n2,m3,n3,m4,n4,m5,n5⟩:=rz;clear rz;go_wp2;exact ⟨⟨(.mk _ _ undef undef ..),rfl⟩,HB.out,bad6 I2.out.st⟩
     . have hzi:(nr:Int) < (z:Int):=by omega
       have HB:Hid (nreadB L=false):=sround_long HLT.out HE4.out (Nat.le_add_right _ 4) hn2 GG.out HN1.out hlt HV0.out (by have:=HNR.out;omega);have rz:=I1.out.st.rz;have ⟨m0,n0,m1,n1,m2,n2,m3,n3,m4,n4,m5,n5⟩:=rz;clear rz;go_wp2;exact ⟨⟨(.mk _ _ undef undef ..),rfl⟩,HB.out,bad6 I1.out.st⟩
   . have hex:(¬ i < mN) \/ (i < mN /\ bd=true):=by cases bd <;> simp at hgo ⊢ <;> omega
     have FIN:Hid (NSG (L.take m,false) (fun N T=>l=N.sites /\ ((L',bd):Rd)=(nt1 N T,false))):=GG.out.out HN1.out (by rcases hex with q | q;(exact .inl (by omega));(exact .inr q.2));clear hgo;rcases hex with hex | ⟨hex,rfl⟩
     . have hii:¬ (i:Int) < (mN:Int):=by omega
       go_wp2;exact ⟨rfl,⟨(.mk undef _ undef _ undef undef ..),rfl⟩,i,l,X,_,la,lc,IL.out,by omega,DD.out,TT.out,TY.out,hBw,FIN.out⟩
     . have hii:(i:Int) < (mN:Int):=by omega
       go_wp2;exact ⟨rfl,⟨(.mk undef _ undef _ undef undef ..),rfl⟩,i,l,X,_,la,lc,IL.out,by omega,DD.out,TT.out,TY.out,hBw,FIN.out⟩
 case cont1 =>
  intro e a' wA hq;rcases hq.out with ⟨rfl,⟨u,rfl⟩,i1,l1,X1,s2,la1,lc1,hl1,hi1,hD1,hT1,hty1,hB1w,hF1⟩ | ⟨rfl,hret⟩
  case inr=>exact retb_post hret
  clear hq
  cases u
  dsimp only;have hA:=hT1;have T1:=Hid.mk' hT1;have TY1:=Hid.mk' hty1;have F1:=Hid.mk' hF1;have D1:=Hid.mk' hD1;have hl1z:=hD1.Gz;obtain ⟨⟨mU,s3⟩,hu2⟩:∃ u,dnM 6 s2=u:=⟨_,rfl⟩
  have hmU:mU <= 6:=by have:=dnM_le 6 s2;rw [hu2] at this;exact this
  have HU2:=Hid.mk' hu2;clear hA hT1 hty1 hF1 hD1 hu2;go_wp2_with (go_at_call 26;refine (rnum_at D1.out.rd 6 (by rfl) (by omega) HU2.out).mono ?_;rintro e w2 ⟨rfl,hd2,hk2⟩;have D2:=Hid.mk' (D1.out.num hk2 hd2);have ST2:=Hid.mk' ((Stay.refl (G + 1) wA).step hk2 (fun g e=>by injection e with e;have:=D1.out.bG;exact .inl (by omega))))
  have hNS2:Hid (NSG (L.take m,false) (fun N T=>mU=N.subs.length /\ s3=(N.subs.flatMap (fun U=>smlI (suI U)) ++ nt2 N T,false))):=fun N T hN hs=>by
   have e1:=HU2.out;rw [(F1.out N T hN hs).2,nt1,dn_fwd (by omega) hN.un] at e1;injection e1 with a1 a2;exact ⟨a1.symm,a2.symm⟩
  have HLG2:Hid (NLG Nt.subs (fun U=>smlI (suI U)) nt2 (L.take m,false) 0 [] s3):=fun N T hN hs=>⟨Nat.zero_le _,rfl,(hNS2.out N T hN hs).2⟩
  have HN2:Hid (NSG (L.take m,false) (fun N _=>mU=N.subs.length)):=fun N T hN hs=>(hNS2.out N T hN hs).1
  have hGz2:=D2.out.Gz;obtain ⟨B2,hB2⟩:∃ B,B=w2.heap.size:=⟨_,rfl⟩
  have hBG2:G + 1 <= B2:=by omega
  have hBA:wA.heap.size <= B2:=by have:=hk2.size;omega
  have HB2:Hid (wA.heap.size <= B2):=hBA;have HBw2:Hid (B2 <= w2.heap.size):=Nat.le_of_eq hB2;clear hB2 hBA hd2 hk2 HU2 hNS2;refine Code.wp_mono (Q:=ExR 2 (fun a wx=>Fr6 (.slice (some ⟨blk,off,none⟩) (m + 4) c) (.pointer (some ⟨R,0,none⟩)) (.pointer (some ⟨b,0,none⟩)) (.pointer (some ⟨G,0,none⟩)) a /\ Fin2 w L m b R G B2 wA la1 i1 lc1 wx) (RetB w R L)) ?cont2 ?loop2
  case loop2 =>
   repeat (rename_i hh;clear hh)
   go_loopw [11] (fun iv wr=>∃ (i:Nat) (l:List Sb) (r:Nat -> Option Addr × Nat) (s':Rd) (la:Option Addr) (lc:Nat),l.length=i /\ i <= mU /\ iv=.int .i64 i /\ Nst w wr b R G s' #[.slice la1 i1 lc1,.slice la i lc,.slice none 0 0,.int .i64 0,.int .i64 0,.int .i64 0] /\ Tl wr B2 G 52 2 i (.slice la i lc) (fun i j=>sbV (l.getD i u0) (r i).1 (r i).2 j) (fun i w'=>Ints w' (r i).1 (l.getD i u0).sites.length (r i).2 (l.getD i u0).sites) /\ (∀ U ∈ l,U.sites.length <= 12 /\ i64B U.critical) /\ Stay (G + 1) wA wr /\ B2 <= wr.heap.size /\ NLG Nt.subs (fun U=>smlI (suI U)) nt2 (L.take m,false) i l s') (fun iv _=>mU - (intOf iv).toNat)
   case atStart=>exact ⟨0,[],fun _=>(none,0),_,none,0,rfl,Nat.zero_le _,rfl,D2.out,Tl.start _ _ _ _ _ _ _,by simp,ST2.out,HBw2.out,HLG2.out⟩
   case round =>
    obtain ⟨i,l,r,⟨L',bd⟩,la,lc,hil,hin,rfl,hD,hT,hty,hST,hBw,hG⟩:=hrel;have DD:=Hid.mk' hD;have TT:=Hid.mk' hT;have TY:=Hid.mk' hty;have SS:=Hid.mk' hST;have GG:=Hid.mk' hG;have IL:=Hid.mk' hil;have hc1:=hD.rd.c1;have hGz:=hD.Gz;have hbG:=hD.bG;have hRb:=hD.Rb;have hlow:∀ g,(Value.slice la i lc).ownBlock=some g -> g < wr.heap.size:=fun g e=>(own_lt TT.out.own g e).2
    have hlo2:∀ g,(Value.slice la i lc).ownBlock=some g -> B2 <= g:=fun g e=>(own_lt TT.out.own g e).1
    have HLO:=Hid.mk' hlow;have HLO2:=Hid.mk' hlo2;clear hD hT hty hG hil hST hlow hlo2;by_cases hgo:i < mU /\ bd=false
    . obtain ⟨hlt,rfl⟩:=hgo;have hii:(i:Int) < (mU:Int):=by omega
      obtain ⟨i0,hi0,hz0',hz1',hz2'⟩:=info_parts Tryz.infoSu;go_wp2_with (first | rw [hX2] | (have hgo:=HR;clear hgo;at_builtin;refine wpList_app (by rfl) _ _ _ (by rfl) (by rfl) (by rfl) HR.out ?_) | (go_at_call 26;refine (rnum_at I1.out.st.rd 12 (by rfl) (by omega) HV1.out).mono ?_;rintro e x1 ⟨rfl,hd1,hk1⟩;have hz1:=hk1.size;have P1:=Hid.mk' (row_kept Q1.out hk1 (fun e=>by injection e with e;omega));have y1:x1.cell? ⟨x0.heap.size,1,none⟩=some (.int .i64 0):=P1.out.cell (i:=1) (by simp);have z1:=P1.out.frozen 1;have Q2:=Hid.mk' (bxK_set P1.out 1 (.int .i64 (cv:Int)) (by simp));have I2:=Hid.mk' ((I1.out.num hk1 hd1).box (g:=x0.heap.size) (by omega) hGz 1 (.int .i64 (cv:Int)));have S2:=Hid.mk' ((((Stay.refl wr.heap.size x0).step S1.out (fun g e=>by cases e)).step hk1 (fun g e=>by injection e with e;exact .inl (by omega))).step (dkept_set x1 x0.heap.size 1 (.int .i64 (cv:Int))) (fun g e=>by injection e with e;exact .inr (by omega)));have NX:=Hid.mk' (GG.out.step (y:=(⟨sp,(cv:Int)⟩:Sb)) (s'':=t1) (fun S T hS hs=>by have:=HN2.out S T hS hs;show i < _;omega) (fun S T x T' hS hs hx hh=>su_fwd NF.out HV1.out (hS.su x hx) hh));obtain ⟨X2,hX2⟩:∃ X2,x1.setCell ⟨x0.heap.size,1,none⟩ (.int .i64 (cv:Int))=X2:=⟨_,rfl⟩;have hzX:x1.heap.size <= X2.heap.size:=(by rw [<- hX2];simp [World.setCell]);rw [hX2] at Q2 I2 S2;have r0:X2.cell? ⟨x0.heap.size,0,none⟩=some (.slice ra sp.length rc):=Q2.out.cell (i:=0) (by simp);have r1:X2.cell? ⟨x0.heap.size,1,none⟩=some (.int .i64 (cv:Int)):=Q2.out.cell (i:=1) (by simp);have gj:X2.cell? ⟨G,1,none⟩=some (.slice la i lc):=I2.out.st.gb.cell (i:=1) (by omega);obtain ⟨a5,c5,W5,hr5,hT5,hk5,_⟩:=(TT.out.stay I2.out.it hBG2).step (t:=23) Tryz.uSus hi0 hz0' hz1' hz2' rfl (by omega) (by omega) (by have:=IL.out;omega) (by omega) (by omega) (Kept.refl X2 none) (cs:=#[.slice ra sp.length rc,.int .i64 (cv:Int)]) (g:=fun j=>sbV ⟨sp,(cv:Int)⟩ ra rc j) (fun j hj=>by have:j=0 \/ j=1:=(by omega);rcases this with rfl | rfl <;> rfl) (fun j=>by unfold sbV;split <;> rfl) (Pk:=fun w'=>Ints w' ra sp.length rc sp) (fun w'' q=>Far2.ints (HI.out.stay S2.out (fun b e=>(HRB.out b e).1)) q (fun x hx=>⟨by have:=(HRB.out x hx).1;omega,fun e=>by have h1:=(HRB.out x hx).1;have h2:=HLO.out _ e.symm;omega⟩));have HR:=Hid.mk' hr5;have T5:=Hid.mk' (hT5 1);have D5:=Hid.mk' (I2.out.st.row hk5 (fun g e=>by have:=HLO2.out g e;omega));have S5:=Hid.mk' ((SS.out.trans I2.out.it).step hk5 (fun g e=>by have h1:=HLO2.out g e;have h2:=HB2.out;exact .inr (by omega)));have hz5:=hk5.size;have gw:W5.cell? ⟨G,1,none⟩=some (.slice la i lc):=D5.out.gb.cell (i:=1) (by omega);have fw:=D5.out.gb.frozen 1;clear hr5 hT5 hk5) | (go_at_call 28;refine (rnumbers_at DD.out.rd (by omega) 12 (by rfl) (by omega)).mono ?_;rintro e x0 ⟨v,sp,t0,rfl,hN⟩;obtain ⟨ra,rc,hv,hI,hrb⟩:=hN.own.ints (fun x hx=>by have:=hN.typ x hx;unfold tickP at this;omega);subst hv;have hz0:=hN.kept.size;have hspl:=hN.len;have I1:=Hid.mk' (((Nit.start DD.out).num hN.kept hN.rd).new (Kept.alloc x0 #[.slice ra sp.length rc,.int .i64 0] 52 (0,0) none));have Q1:=Hid.mk' (bxK_alloc x0 #[.slice ra sp.length rc,.int .i64 0] 52);have S1:=Hid.mk' (Kept.alloc x0 #[.slice ra sp.length rc,.int .i64 0] 52 (0,0) none);have zU:(x0.alloc (.cells #[.slice ra sp.length rc,.int .i64 0] 52)).heap.size=x0.heap.size + 1:=by {simp};have HI:=Hid.mk' hI;have HRB:=Hid.mk' hrb;have NF:=Hid.mk' hN.fwd;obtain ⟨⟨cv,t1⟩,hu1⟩:∃ u,dnM 12 t0=u:=⟨_,rfl⟩;have hcv:cv <= 12:=(by have:=dnM_le 12 t0;rw [hu1] at this;exact this);have HV1:=Hid.mk' hu1;clear hu1 hN hI hrb))
      go_roundw
      case rel =>
       have D6:Nst w (W5.setCell ⟨G,1,none⟩ (.slice a5 (i + 1:Nat) c5)) b R G t1 #[.slice la1 i1 lc1,.slice a5 (i + 1:Nat) c5,.slice none 0 0,.int .i64 0,.int .i64 0,.int .i64 0]:=by simpa only [List.setIfInBounds_toArray,List.set_cons_zero,List.set_cons_succ] using D5.out.put 1 (.slice a5 (i + 1:Nat) c5) (by simp)
       have hXn:=snocU (l:=l) (U:=(⟨sp,(cv:Int)⟩:Sb)) (r:=r) (p:=(ra,rc)) IL.out;refine ⟨i + 1,l ++ [(⟨sp,(cv:Int)⟩:Sb)],(fun k=>if k=i then (ra,rc) else r k),t1,a5,c5,by rw [List.length_append,IL.out];rfl,by omega,by go_num,D6,T5.out.congr hXn.1 hXn.2 (by omega),fun x hx=>?_,S5.out.step (dkept_set W5 G 1 _) (fun g e=>by injection e with e;exact .inl (by omega)),?_,NX.out⟩
       . rcases List.mem_append.1 hx with q | q
         . exact TY.out x q
         . simp at q;subst q;exact ⟨hspl,by unfold i64B;dsimp only;omega⟩
       . have:(W5.setCell ⟨G,1,none⟩ (.slice a5 (i + 1:Nat) c5)).heap.size=W5.heap.size:=by simp [World.setCell]
         omega
      case measure=>simp [intOf];omega
    . have hex:(¬ i < mU) \/ (i < mU /\ bd=true):=by cases bd <;> simp at hgo ⊢ <;> omega
      have FIN:Hid (NSG (L.take m,false) (fun N T=>l=Nt.subs N /\ ((L',bd):Rd)=(nt2 N T,false))):=GG.out.out HN2.out (by rcases hex with q | q;(exact .inl (by omega));(exact .inr q.2));clear hgo;rcases hex with hex | ⟨hex,rfl⟩
      . have hii:¬ (i:Int) < (mU:Int):=by omega
        go_wp2;exact ⟨rfl,⟨(.mk undef _ undef _ undef undef ..),rfl⟩,i,l,r,_,la,lc,IL.out,by omega,DD.out,TT.out,TY.out,SS.out,hBw,FIN.out⟩
      . have hii:(i:Int) < (mU:Int):=by omega
        go_wp2;exact ⟨rfl,⟨(.mk undef _ undef _ undef undef ..),rfl⟩,i,l,r,_,la,lc,IL.out,by omega,DD.out,TT.out,TY.out,SS.out,hBw,FIN.out⟩
  case cont2 =>
   intro e a' wB hq;rcases hq.out with ⟨rfl,⟨u,rfl⟩,i2,l2,r2,s4,la2,lc2,hl2,hi2,hD2,hT2,hty2,hST2,hB2w,hF2⟩ | ⟨rfl,hret⟩
   case inr=>exact retb_post hret
   clear hq
   cases u
   dsimp only;have T2:=Hid.mk' hT2;have TY2:=Hid.mk' hty2;have F2:=Hid.mk' hF2;have D2:=Hid.mk' hD2;have SAB:=Hid.mk' hST2;have hbG0:=hD2.bG;obtain ⟨⟨lov,s5⟩,hu3⟩:∃ u,dnM 1048576 s4=u:=⟨_,rfl⟩
   obtain ⟨⟨hiv,s6⟩,hu4⟩:∃ u,dnM 1048576 s5=u:=⟨_,rfl⟩
   obtain ⟨⟨stv,s7⟩,hu5⟩:∃ u,dnM 1048576 s6=u:=⟨_,rfl⟩
   obtain ⟨⟨mW,s8⟩,hu6⟩:∃ u,dnM 8 s7=u:=⟨_,rfl⟩
   have hlo:lov <= 1048576:=by have:=dnM_le 1048576 s4;rw [hu3] at this;exact this
   have hhi:hiv <= 1048576:=by have:=dnM_le 1048576 s5;rw [hu4] at this;exact this
   have hst:stv <= 1048576:=by have:=dnM_le 1048576 s6;rw [hu5] at this;exact this
   have hmW:mW <= 8:=by have:=dnM_le 8 s7;rw [hu6] at this;exact this
   have HU3:=Hid.mk' hu3;have HU4:=Hid.mk' hu4;have HU5:=Hid.mk' hu5;have HU6:=Hid.mk' hu6;have ST0:=Hid.mk' (Stay.refl (G + 1) wB);have hm0:=trivial;clear hT2 hty2 hF2 hD2 hST2 hu3 hu4 hu5 hu6;go_wp2_with (first | rw [hZ1] | rw [hZ2] | rw [hZ3] | (have hgo:=hm3;clear hgo;go_at_call 26;refine (rnum_at E3.out.rd 8 (by rfl) (by omega) HU6.out).mono ?_;rintro e w3 ⟨rfl,hd,hk⟩;have D3:=Hid.mk' (E3.out.num hk hd);have ST4:=Hid.mk' (ST3.out.step hk (fun g e=>by injection e with e;have:=E3.out.bG;exact .inl (by omega)));clear hd hk hm3) | (have hgo:=hm2;clear hgo;go_at_call 26;refine (rnum_at E2.out.rd 1048576 (by rfl) (by omega) HU5.out).mono ?_;rintro e z3 ⟨rfl,hd,hk⟩;have hDk:=E2.out.num hk hd;have hSk:=ST2.out.step hk (fun g e=>by injection e with e;have:=E2.out.bG;exact .inl (by omega));have yZ3:z3.cell? ⟨G,5,none⟩=some (.int .i64 0):=hDk.gb.cell (i:=5) (by omega);have fZ3:=hDk.gb.frozen 5;have E3:Hid (Nst w (z3.setCell ⟨G,5,none⟩ (.int .i64 (stv:Int))) b R G s7 #[.slice la1 i1 lc1,.slice la2 i2 lc2,.slice none 0 0,.int .i64 (lov:Int),.int .i64 (hiv:Int),.int .i64 (stv:Int)]):=(by show Nst _ _ _ _ _ _ _;simpa only [List.setIfInBounds_toArray,List.set_cons_zero,List.set_cons_succ] using hDk.put 5 (.int .i64 (stv:Int)) (by simp));have ST3:=Hid.mk' (hSk.step (dkept_set z3 G 5 (.int .i64 (stv:Int))) (fun g e=>by injection e with e;exact .inl (by omega)));obtain ⟨Z3,hZ3⟩:∃ X,z3.setCell ⟨G,5,none⟩ (.int .i64 (stv:Int))=X:=⟨_,rfl⟩;rw [hZ3] at E3 ST3;have hm3:=trivial;clear hd hk hDk hSk hm2) | (have hgo:=hm1;clear hgo;go_at_call 26;refine (rnum_at E1.out.rd 1048576 (by rfl) (by omega) HU4.out).mono ?_;rintro e z2 ⟨rfl,hd,hk⟩;have hDk:=E1.out.num hk hd;have hSk:=ST1.out.step hk (fun g e=>by injection e with e;have:=E1.out.bG;exact .inl (by omega));have yZ2:z2.cell? ⟨G,4,none⟩=some (.int .i64 0):=hDk.gb.cell (i:=4) (by omega);have fZ2:=hDk.gb.frozen 4;have E2:Hid (Nst w (z2.setCell ⟨G,4,none⟩ (.int .i64 (hiv:Int))) b R G s6 #[.slice la1 i1 lc1,.slice la2 i2 lc2,.slice none 0 0,.int .i64 (lov:Int),.int .i64 (hiv:Int),.int .i64 0]):=(by show Nst _ _ _ _ _ _ _;simpa only [List.setIfInBounds_toArray,List.set_cons_zero,List.set_cons_succ] using hDk.put 4 (.int .i64 (hiv:Int)) (by simp));have ST2:=Hid.mk' (hSk.step (dkept_set z2 G 4 (.int .i64 (hiv:Int))) (fun g e=>by injection e with e;exact .inl (by omega)));obtain ⟨Z2,hZ2⟩:∃ X,z2.setCell ⟨G,4,none⟩ (.int .i64 (hiv:Int))=X:=⟨_,rfl⟩;rw [hZ2] at E2 ST2;have hm2:=trivial;clear hd hk hDk hSk hm1) | (have hgo:=hm0;clear hgo;go_at_call 26;refine (rnum_at D2.out.rd 1048576 (by rfl) (by omega) HU3.out).mono ?_;rintro e z1 ⟨rfl,hd,hk⟩;have hDk:=D2.out.num hk hd;have hSk:=ST0.out.step hk (fun g e=>by injection e with e;have:=D2.out.bG;exact .inl (by omega));have yZ1:z1.cell? ⟨G,3,none⟩=some (.int .i64 0):=hDk.gb.cell (i:=3) (by omega);have fZ1:=hDk.gb.frozen 3;have E1:Hid (Nst w (z1.setCell ⟨G,3,none⟩ (.int .i64 (lov:Int))) b R G s5 #[.slice la1 i1 lc1,.slice la2 i2 lc2,.slice none 0 0,.int .i64 (lov:Int),.int .i64 0,.int .i64 0]):=(by show Nst _ _ _ _ _ _ _;simpa only [List.setIfInBounds_toArray,List.set_cons_zero,List.set_cons_succ] using hDk.put 3 (.int .i64 (lov:Int)) (by simp));have ST1:=Hid.mk' (hSk.step (dkept_set z1 G 3 (.int .i64 (lov:Int))) (fun g e=>by injection e with e;exact .inl (by omega)));obtain ⟨Z1,hZ1⟩:∃ X,z1.setCell ⟨G,3,none⟩ (.int .i64 (lov:Int))=X:=⟨_,rfl⟩;rw [hZ1] at E1 ST1;have hm1:=trivial;clear hd hk hDk hSk hm0))
   have hNS3:Hid (NSG (L.take m,false) (fun N T=>((lov:Int)=N.low /\ (hiv:Int)=N.high /\ (stv:Int)=N.step) /\ mW=N.weds.length /\ s8=(N.weds.flatMap (fun D=>smlI (weI D)) ++ nt3 N T,false))):=fun N T hN hs=>by
    have e3:=HU3.out;have e4:=HU4.out;have e5:=HU5.out;have e6:=HU6.out;have hc:=hN.cy;unfold tickP at hc;rw [(F2.out N T hN hs).2,nt2,dn_fwd (by omega) (by omega)] at e3;injection e3 with a1 a2;rw [<- a2,dn_fwd (by omega) (by omega)] at e4;injection e4 with b1 b2;rw [<- b2,dn_fwd (by omega) (by omega)] at e5;injection e5 with d1 d2;rw [<- d2,dn_fwd (by omega) hN.wn] at e6;injection e6 with g1 g2;exact ⟨⟨by omega,by omega,by omega⟩,g1.symm,g2.symm⟩
   have FC:Hid (NSG (L.take m,false) (fun N _=>(lov:Int)=N.low /\ (hiv:Int)=N.high /\ (stv:Int)=N.step)):=fun N T hN hs=>(hNS3.out N T hN hs).1
   have HLG3:Hid (NLG Nt.weds (fun D=>smlI (weI D)) nt3 (L.take m,false) 0 [] s8):=fun N T hN hs=>⟨Nat.zero_le _,rfl,(hNS3.out N T hN hs).2.2⟩
   have HN3:Hid (NSG (L.take m,false) (fun N _=>mW=N.weds.length)):=fun N T hN hs=>(hNS3.out N T hN hs).2.1
   have hGz3:=D3.out.Gz;have hz3B:=ST4.out.size;obtain ⟨B3,hB3⟩:∃ B,B=w3.heap.size:=⟨_,rfl⟩
   have hBG3:G + 1 <= B3:=by omega
   have HB3:Hid (wB.heap.size <= B3):=(by show _ <= _;omega);have HBw3:Hid (B3 <= w3.heap.size):=Nat.le_of_eq hB3;clear hB3 HU3 HU4 HU5 HU6 hNS3 E1 E2 E3 ST0 ST1 ST2 ST3 hZ1 hZ2 hZ3 D2 yZ1 yZ2 yZ3 fZ1 fZ2 fZ3;refine Code.wp_mono (Q:=ExR 4 (fun a wx=>Fr6 (.slice (some ⟨blk,off,none⟩) (m + 4) c) (.pointer (some ⟨R,0,none⟩)) (.pointer (some ⟨b,0,none⟩)) (.pointer (some ⟨G,0,none⟩)) a /\ Fin3 w L m b R G B3 wB la1 i1 lc1 la2 i2 lc2 lov hiv stv wx) (RetB w R L)) ?cont3 ?loop3
   case loop3 =>
    repeat (rename_i hh;clear hh)
    go_loopw [13] (fun iv wr=>∃ (i:Nat) (l:List Wd) (r:Nat -> Option Addr × Nat) (s':Rd) (la:Option Addr) (lc:Nat),l.length=i /\ i <= mW /\ iv=.int .i64 i /\ Nst w wr b R G s' #[.slice la1 i1 lc1,.slice la2 i2 lc2,.slice la i lc,.int .i64 (lov:Int),.int .i64 (hiv:Int),.int .i64 (stv:Int)] /\ Tl wr B3 G 54 4 i (.slice la i lc) (fun i j=>wdV (l.getD i d0) (r i).1 (r i).2 j) (fun i w'=>Ints w' (r i).1 (l.getD i d0).offsets.length (r i).2 (l.getD i d0).offsets) /\ (∀ D ∈ l,D.offsets.length <= 8 /\ i64B D.a /\ i64B D.b /\ i64B D.votes) /\ Stay (G + 1) wB wr /\ B3 <= wr.heap.size /\ NLG Nt.weds (fun D=>smlI (weI D)) nt3 (L.take m,false) i l s') (fun iv _=>mW - (intOf iv).toNat)
    case atStart=>exact ⟨0,[],fun _=>(none,0),_,none,0,rfl,Nat.zero_le _,rfl,D3.out,Tl.start _ _ _ _ _ _ _,by simp,ST4.out,HBw3.out,HLG3.out⟩
    case round =>
     obtain ⟨i,l,r,⟨L',bd⟩,la,lc,hil,hin,rfl,hD,hT,hty,hST,hBw,hG⟩:=hrel;have DD:=Hid.mk' hD;have TT:=Hid.mk' hT;have TY:=Hid.mk' hty;have SS:=Hid.mk' hST;have GG:=Hid.mk' hG;have IL:=Hid.mk' hil;have hc1:=hD.rd.c1;have hGz:=hD.Gz;have hbG:=hD.bG;have hRb:=hD.Rb;have hlow:∀ g,(Value.slice la i lc).ownBlock=some g -> g < wr.heap.size:=fun g e=>(own_lt TT.out.own g e).2
     have hlo2:∀ g,(Value.slice la i lc).ownBlock=some g -> B3 <= g:=fun g e=>(own_lt TT.out.own g e).1
     have HLO:=Hid.mk' hlow;have HLO2:=Hid.mk' hlo2;clear hD hT hty hG hil hST hlow hlo2;by_cases hgo:i < mW /\ bd=false
     . obtain ⟨hlt,rfl⟩:=hgo;have hii:(i:Int) < (mW:Int):=by omega
       obtain ⟨i0,hi0,hz0',hz1',hz2'⟩:=info_parts Tryz.infoWe;obtain ⟨⟨av,t0⟩,hv0⟩:∃ u,dnM 6 (L',false)=u:=⟨_,rfl⟩
       obtain ⟨⟨bv,t1⟩,hv1⟩:∃ u,dnM 6 t0=u:=⟨_,rfl⟩
       obtain ⟨⟨vv,t2⟩,hv2⟩:∃ u,dnM 1048576 t1=u:=⟨_,rfl⟩
       have hav:av <= 6:=by have:=dnM_le 6 (L',false);rw [hv0] at this;exact this
       have hbv:bv <= 6:=by have:=dnM_le 6 t0;rw [hv1] at this;exact this
       have hvv:vv <= 1048576:=by have:=dnM_le 1048576 t1;rw [hv2] at this;exact this
       have HV0:=Hid.mk' hv0;have HV1:=Hid.mk' hv1;have HV2:=Hid.mk' hv2;clear hv0 hv1 hv2;go_wp2_with (first | rw [hX1] | rw [hX2] | rw [hX4] | (have hgo:=HR;clear hgo;at_builtin;refine wpList_app (by rfl) _ _ _ (by rfl) (by rfl) (by rfl) HR.out ?_) | (have hgo:=hg3;clear hgo;go_at_call 28;refine (rnumbers_at I3.out.st.rd (by omega) 8 (by rfl) (by omega)).mono ?_;rintro e x3 ⟨v,sp,t3,rfl,hN⟩;obtain ⟨ra,rc,hv,hI,hrb⟩:=hN.own.ints (fun x hx=>by have:=hN.typ x hx;unfold tickP at this;omega);subst hv;have hz3:=hN.kept.size;have hspl:=hN.len;have P3:=Hid.mk' (row_kept Q3.out hN.kept (fun e=>by injection e with e;omega));have y3:x3.cell? ⟨x0.heap.size,3,none⟩=some (.slice none 0 0):=P3.out.cell (i:=3) (by simp);have f3:=P3.out.frozen 3;have Q4:=Hid.mk' (bxK_set P3.out 3 (.slice ra sp.length rc) (by simp));have I4:=Hid.mk' ((I3.out.num hN.kept hN.rd).box (g:=x0.heap.size) (by omega) hGz 3 (.slice ra sp.length rc));have S4:=Hid.mk' ((Stay.refl X2.heap.size x3).step (dkept_set x3 x0.heap.size 3 (.slice ra sp.length rc)) (fun g e=>by injection e with e;exact .inl (by omega)));have NX:=Hid.mk' (GG.out.step (y:=(⟨(av:Int),(bv:Int),(vv:Int),sp⟩:Wd)) (s'':=t3) (fun S T hS hs=>by have:=HN3.out S T hS hs;show i < _;omega) (fun S T x T' hS hs hx hh=>we_fwd HV0.out HV1.out HV2.out hN.fwd (hS.we x hx) hh));obtain ⟨X4,hX4⟩:∃ X,x3.setCell ⟨x0.heap.size,3,none⟩ (.slice ra sp.length rc)=X:=⟨_,rfl⟩;have hzX4:x3.heap.size <= X4.heap.size:=(by rw [<- hX4];simp [World.setCell]);rw [hX4] at Q4 I4 S4;have r0:X4.cell? ⟨x0.heap.size,0,none⟩=some (.int .i64 (av:Int)):=Q4.out.cell (i:=0) (by simp);have r1:X4.cell? ⟨x0.heap.size,1,none⟩=some (.int .i64 (bv:Int)):=Q4.out.cell (i:=1) (by simp);have r2:X4.cell? ⟨x0.heap.size,2,none⟩=some (.int .i64 (vv:Int)):=Q4.out.cell (i:=2) (by simp);have r3:X4.cell? ⟨x0.heap.size,3,none⟩=some (.slice ra sp.length rc):=Q4.out.cell (i:=3) (by simp);have gj:X4.cell? ⟨G,2,none⟩=some (.slice la i lc):=I4.out.st.gb.cell (i:=2) (by omega);obtain ⟨a5,c5,W5,hr5,hT5,hk5,_⟩:=(TT.out.stay I4.out.it hBG3).step (t:=24) Tryz.uWes hi0 hz0' hz1' hz2' rfl (by omega) (by omega) (by have:=IL.out;omega) (by omega) (by omega) (Kept.refl X4 none) (cs:=#[.int .i64 (av:Int),.int .i64 (bv:Int),.int .i64 (vv:Int),.slice ra sp.length rc]) (g:=fun j=>wdV ⟨(av:Int),(bv:Int),(vv:Int),sp⟩ ra rc j) (fun j hj=>by have:j=0 \/ j=1 \/ j=2 \/ j=3:=(by omega);rcases this with rfl | rfl | rfl | rfl <;> rfl) (fun j=>by unfold wdV;split <;> rfl) (Pk:=fun w'=>Ints w' ra sp.length rc sp) (fun w'' q=>Far2.ints (hI.stay S4.out (fun b e=>(hrb b e).1)) q (fun x hx=>⟨by have:=(hrb x hx).1;omega,fun e=>by have h1:=(hrb x hx).1;have h2:=HLO.out _ e.symm;omega⟩));have HR:=Hid.mk' hr5;have T5:=Hid.mk' (hT5 2);have D5:=Hid.mk' (I4.out.st.row hk5 (fun g e=>by have:=HLO2.out g e;omega));have S5:=Hid.mk' ((SS.out.trans I4.out.it).step hk5 (fun g e=>by have h1:=HLO2.out g e;have h2:=HB3.out;exact .inr (by omega)));have hz5:=hk5.size;have gw:W5.cell? ⟨G,2,none⟩=some (.slice la i lc):=D5.out.gb.cell (i:=2) (by omega);have fw:=D5.out.gb.frozen 2;clear hr5 hT5 hk5 hN hI hrb hg3) | (have hgo:=hg2;clear hgo;go_at_call 26;refine (rnum_at I2.out.st.rd 1048576 (by rfl) (by omega) HV2.out).mono ?_;rintro e x2 ⟨rfl,hd2,hk2⟩;have hz2:=hk2.size;have P2:=Hid.mk' (row_kept Q2.out hk2 (fun e=>by injection e with e;omega));have y2:x2.cell? ⟨x0.heap.size,2,none⟩=some (.int .i64 0):=P2.out.cell (i:=2) (by simp);have f2:=P2.out.frozen 2;have Q3:=Hid.mk' (bxK_set P2.out 2 (.int .i64 (vv:Int)) (by simp));have I3:=Hid.mk' ((I2.out.num hk2 hd2).box (g:=x0.heap.size) (by omega) hGz 2 (.int .i64 (vv:Int)));obtain ⟨X2,hX2⟩:∃ X,x2.setCell ⟨x0.heap.size,2,none⟩ (.int .i64 (vv:Int))=X:=⟨_,rfl⟩;have hzX2:x2.heap.size <= X2.heap.size:=(by rw [<- hX2];simp [World.setCell]);rw [hX2] at Q3 I3;have hg3:=trivial;clear hk2 hd2 hg2) | (have hgo:=hg1;clear hgo;go_at_call 26;refine (rnum_at I1.out.st.rd 6 (by rfl) (by omega) HV1.out).mono ?_;rintro e x1 ⟨rfl,hd1,hk1⟩;have hz1:=hk1.size;have P1:=Hid.mk' (row_kept Q1.out hk1 (fun e=>by injection e with e;omega));have y1:x1.cell? ⟨x0.heap.size,1,none⟩=some (.int .i64 0):=P1.out.cell (i:=1) (by simp);have f1:=P1.out.frozen 1;have Q2:=Hid.mk' (bxK_set P1.out 1 (.int .i64 (bv:Int)) (by simp));have I2:=Hid.mk' ((I1.out.num hk1 hd1).box (g:=x0.heap.size) (by omega) hGz 1 (.int .i64 (bv:Int)));obtain ⟨X1,hX1⟩:∃ X,x1.setCell ⟨x0.heap.size,1,none⟩ (.int .i64 (bv:Int))=X:=⟨_,rfl⟩;have hzX1:x1.heap.size <= X1.heap.size:=(by rw [<- hX1];simp [World.setCell]);rw [hX1] at Q2 I2;have hg2:=trivial;clear hk1 hd1 hg1) | (go_at_call 26;refine (rnum_at DD.out.rd 6 (by rfl) (by omega) HV0.out).mono ?_;rintro e x0 ⟨rfl,hd0,hk0⟩;have hz0:=hk0.size;have I1:=Hid.mk' (((Nit.start DD.out).num hk0 hd0).new (Kept.alloc x0 #[.int .i64 (av:Int),.int .i64 0,.int .i64 0,.slice none 0 0] 54 (0,0) none));have Q1:=Hid.mk' (bxK_alloc x0 #[.int .i64 (av:Int),.int .i64 0,.int .i64 0,.slice none 0 0] 54);have zU:(x0.alloc (.cells #[.int .i64 (av:Int),.int .i64 0,.int .i64 0,.slice none 0 0] 54)).heap.size=x0.heap.size + 1:=by {simp};have hg1:=trivial;clear hk0 hd0))
       go_roundw
       case rel =>
        have D6:Nst w (W5.setCell ⟨G,2,none⟩ (.slice a5 (i + 1:Nat) c5)) b R G t3 #[.slice la1 i1 lc1,.slice la2 i2 lc2,.slice a5 (i + 1:Nat) c5,.int .i64 (lov:Int),.int .i64 (hiv:Int),.int .i64 (stv:Int)]:=by simpa only [List.setIfInBounds_toArray,List.set_cons_zero,List.set_cons_succ] using D5.out.put 2 (.slice a5 (i + 1:Nat) c5) (by simp)
        have hXn:=snocW (l:=l) (U:=(⟨(av:Int),(bv:Int),(vv:Int),sp⟩:Wd)) (r:=r) (p:=(ra,rc)) IL.out;refine ⟨i + 1,l ++ [(⟨(av:Int),(bv:Int),(vv:Int),sp⟩:Wd)],(fun k=>if k=i then (ra,rc) else r k),t3,a5,c5,by rw [List.length_append,IL.out];rfl,by omega,by go_num,D6,T5.out.congr hXn.1 hXn.2 (by omega),fun x hx=>?_,S5.out.step (dkept_set W5 G 2 _) (fun g e=>by injection e with e;exact .inl (by omega)),?_,NX.out⟩
        . rcases List.mem_append.1 hx with q | q
          . exact TY.out x q
          . simp at q;subst q;exact ⟨hspl,by unfold i64B;dsimp only;omega,by unfold i64B;dsimp only;omega,by unfold i64B;dsimp only;omega⟩
        . have:(W5.setCell ⟨G,2,none⟩ (.slice a5 (i + 1:Nat) c5)).heap.size=W5.heap.size:=by simp [World.setCell]
          omega
       case measure=>simp [intOf];omega
     . have hex:(¬ i < mW) \/ (i < mW /\ bd=true):=by cases bd <;> simp at hgo ⊢ <;> omega
       have FIN:Hid (NSG (L.take m,false) (fun N T=>l=Nt.weds N /\ ((L',bd):Rd)=(nt3 N T,false))):=GG.out.out HN3.out (by rcases hex with q | q;(exact .inl (by omega));(exact .inr q.2));clear hgo;rcases hex with hex | ⟨hex,rfl⟩
       . have hii:¬ (i:Int) < (mW:Int):=by omega
         go_wp2;exact ⟨rfl,⟨(.mk undef _ undef _ undef undef ..),rfl⟩,i,l,r,_,la,lc,IL.out,by omega,DD.out,TT.out,TY.out,SS.out,hBw,FIN.out⟩
       . have hii:(i:Int) < (mW:Int):=by omega
         go_wp2;exact ⟨rfl,⟨(.mk undef _ undef _ undef undef ..),rfl⟩,i,l,r,_,la,lc,IL.out,by omega,DD.out,TT.out,TY.out,SS.out,hBw,FIN.out⟩
   case cont3 =>
    intro e a' wC hq;rcases hq.out with ⟨rfl,⟨u,rfl⟩,i3,l3,r3,s9,la3,lc3,hl3,hi3,hD3,hT3,hty3,hST3,hB3w,hF3⟩ | ⟨rfl,hret⟩
    case inr=>exact retb_post hret
    clear hq
    cases u
    dsimp only;subst hl1 hl2 hl3;have D4:=Hid.mk' hD3;have F3:=Hid.mk' hF3;have hBC:=hST3.size;have SAC:=Hid.mk' (SAB.out.trans hST3)
    have HNET:Hid (∀ w'',Far2 wC w'' G none -> NetAt w'' (⟨la1,lc1,la2,lc2,la3,lc3,X1,r2,r3⟩:Na) (⟨l1,l2,l3,(lov:Int),(hiv:Int),(stv:Int)⟩:Nt)):=fun w'' q=>by
     obtain ⟨p1,p2,p3⟩:=(T1.out.stay SAC.out hBG1).done q (by omega) (by omega);obtain ⟨p4,p5,p6⟩:=(T2.out.stay hST3 hBG2).done q (by omega) (by omega);obtain ⟨p7,p8,p9⟩:=hT3.done q (by omega) (by omega);exact ⟨p1,p3,p4,p6,p7,p9,p2,p5,p8,fun x hx=>(TY2.out x hx).2,fun x hx=>(hty3 x hx).2,by unfold i64B;dsimp only;omega,by unfold i64B;dsimp only;omega,by unfold i64B;dsimp only;omega⟩
    have HFEW:Hid (NFew (⟨l1,l2,l3,(lov:Int),(hiv:Int),(stv:Int)⟩:Nt)):=by
     show NFew _
     refine ⟨by dsimp only;omega,by dsimp only;omega,by dsimp only;omega,fun i hi=>?_,fun i hi=>?_,fun i hi=>?_⟩
     . have:=TY1.out _ (getD_mem (d:=s0) hi);exact few_read this.1 this.2
     . have:=(TY2.out _ (getD_mem (d:=u0) hi)).1;exact Nat.le_trans this (by omega)
     . have:=(hty3 _ (getD_mem (d:=d0) hi)).1;exact Nat.le_trans this (by omega)
    have HEQ:Hid (nreadB L=true -> (⟨l1,l2,l3,(lov:Int),(hiv:Int),(stv:Int)⟩:Nt)=readN L /\ s9.2=false):=fun hr=>by
     obtain ⟨h1,h2⟩:=nread_parts HLT.out hr;rw [HE4.out] at h1;have hs:((L.take m,false):Rd)=(netL (readN L) ++ [],false):=by rw [h1,List.append_nil]
     obtain ⟨a1,_⟩:=F1.out _ _ h2 hs;obtain ⟨a2,_⟩:=F2.out _ _ h2 hs;obtain ⟨a3,a4⟩:=F3.out _ _ h2 hs;obtain ⟨a5,a6,a7⟩:=FC.out _ _ h2 hs;refine ⟨?_,by rw [a4]⟩;generalize readN L=N at *
     cases N
     simp only at a1 a2 a3 a5 a6 a7;rw [a1,a2,a3,a5,a6,a7]
    have HBAD:Hid (∀ (P:Prop),(nreadB L=true -> (⟨l1,l2,l3,(lov:Int),(hiv:Int),(stv:Int)⟩:Nt)=readN L /\ s9.2=false -> P -> False) -> P -> nreadB L=false):=fun P h1 h2=>by
     cases hr:nreadB L with
     | false=>rfl
     | true=>exact (h1 hr (HEQ.out hr) h2).elim
    have HROK:Hid (NRok (⟨l1,l2,l3,(lov:Int),(hiv:Int),(stv:Int)⟩:Nt)):=fun i hi=>by
     have h1:=TY1.out _ (getD_mem (d:=s0) hi);have h2:=(HNET.out wC (Far2.refl _ _ _)).s2 i hi;refine ⟨h1.2,?_⟩;have h3:=siteL_len h2 h1.1;rw [writeL_yes h1.1,List.length_append,sum4_len];exact Nat.le_trans (Nat.add_le_add_right h3 4) (by omega)
    have rb9:=hD3.rd.c1;have hRG:R < G:=by have:=hD3.Rb;have:=hD3.bG;omega
    have hRw:=hD3.hR;obtain ⟨sl9,sb9⟩:=s9;dsimp only at rb9 HEQ HBAD;clear hD3 hT3 hty3 hF3 T1 T2 TY1 TY2 F1 F2 F3 FC HEQ;have rz:=D4.out.rz;have ⟨m0,n0,m1,n1,m2,n2,m3,n3,m4,n4,m5,n5⟩:=rz;clear rz
    cases sb9 with
    | true =>
     have HB:=Hid.mk' (HBAD.out True (fun _ h _=>by cases h.2) trivial);go_wp2;exact retb_post ⟨⟨(.mk _ _ undef undef ..),rfl⟩,HB.out,bad6 D4.out⟩
    | false =>
     have g0:wC.cell? ⟨G,0,none⟩=some (.slice la1 l1.length lc1):=D4.out.gb.cell (i:=0) (by omega);have g1:wC.cell? ⟨G,1,none⟩=some (.slice la2 l2.length lc2):=D4.out.gb.cell (i:=1) (by omega);have g2:wC.cell? ⟨G,2,none⟩=some (.slice la3 l3.length lc3):=D4.out.gb.cell (i:=2) (by omega);have g3:wC.cell? ⟨G,3,none⟩=some (.int .i64 (lov:Int)):=D4.out.gb.cell (i:=3) (by omega);have g4:wC.cell? ⟨G,4,none⟩=some (.int .i64 (hiv:Int)):=D4.out.gb.cell (i:=4) (by omega);have g5:wC.cell? ⟨G,5,none⟩=some (.int .i64 (stv:Int)):=D4.out.gb.cell (i:=5) (by omega);have HWR:=Hid.mk' (rwrite6_any (HNET.out wC (Far2.refl _ _ _)) HFEW.out);have HWL:=Hid.mk' (nwriteL_lt (⟨l1,l2,l3,(lov:Int),(hiv:Int),(stv:Int)⟩:Nt));have HTX:=Hid.mk' (textOf_eq (nwriteL_lt (⟨l1,l2,l3,(lov:Int),(hiv:Int),(stv:Int)⟩:Nt)) HLT.out);go_wp2_with (fail);go_at_call 7;refine HWR.out.mono ?_;rintro e w4 ⟨a4,c4,rfl,hm4,hk4⟩;have t1:=run_text (hm4.by HWL.out) c4;have t2:=run_text (HBY.out.kept (D4.out.kept.tr hk4)) c;have D5:=Hid.mk' (D4.out.row hk4 (fun g e=>by cases e));clear m0 n0 m1 n1 m2 n2 m3 n3 m4 n4 m5 n5 g0 g1 g2 g3 g4 g5 HWR;have rz:=D5.out.rz;have ⟨m0,n0,m1,n1,m2,n2,m3,n3,m4,n4,m5,n5⟩:=rz;clear rz hm4;have g0:w4.cell? ⟨G,0,none⟩=some (.slice la1 l1.length lc1):=D5.out.gb.cell (i:=0) (by omega);have g1:w4.cell? ⟨G,1,none⟩=some (.slice la2 l2.length lc2):=D5.out.gb.cell (i:=1) (by omega);have g2:w4.cell? ⟨G,2,none⟩=some (.slice la3 l3.length lc3):=D5.out.gb.cell (i:=2) (by omega);have g3:w4.cell? ⟨G,3,none⟩=some (.int .i64 (lov:Int)):=D5.out.gb.cell (i:=3) (by omega);have g4:w4.cell? ⟨G,4,none⟩=some (.int .i64 (hiv:Int)):=D5.out.gb.cell (i:=4) (by omega);have g5:w4.cell? ⟨G,5,none⟩=some (.int .i64 (stv:Int)):=D5.out.gb.cell (i:=5) (by omega);have K4:=Hid.mk' hk4
     cases hb:netB (⟨l1,l2,l3,(lov:Int),(hiv:Int),(stv:Int)⟩:Nt) with
     | false =>
      have HB:=Hid.mk' (HBAD.out (netB (⟨l1,l2,l3,(lov:Int),(hiv:Int),(stv:Int)⟩:Nt)=false) (fun hr h hP=>by rw [h.1,(nwrite_read HLT.out hr).2] at hP;cases hP) hb);rw [netE_no hb];generalize textOf (nwriteL (⟨l1,l2,l3,(lov:Int),(hiv:Int),(stv:Int)⟩:Nt))=T1 at *;generalize (nwriteL (⟨l1,l2,l3,(lov:Int),(hiv:Int),(stv:Int)⟩:Nt)).length=q at *;clear HTX HBAD hb;go_wp2;exact retb_post ⟨⟨(.mk _ _ undef undef ..),rfl⟩,HB.out,bad6 D5.out⟩
     | true =>
      by_cases hw:nwriteL (⟨l1,l2,l3,(lov:Int),(hiv:Int),(stv:Int)⟩:Nt)=L
      . obtain ⟨p1,p2⟩:=nread_write hb HROK.out;rw [hw] at p1 p2;have HP1:=Hid.mk' p1;have HP2:=Hid.mk' p2;have ht:((textOf (nwriteL (⟨l1,l2,l3,(lov:Int),(hiv:Int),(stv:Int)⟩:Nt))).toList == (textOf L).toList)=true:=by rw [HTX.out];exact decide_eq_true hw
        rw [netE_yes hb];generalize textOf (nwriteL (⟨l1,l2,l3,(lov:Int),(hiv:Int),(stv:Int)⟩:Nt))=T1 at *;generalize textOf L=T2 at *;generalize (nwriteL (⟨l1,l2,l3,(lov:Int),(hiv:Int),(stv:Int)⟩:Nt)).length=q at *;clear HTX HBAD hb hw p1 p2;go_wp2;obtain ⟨h1,h2,q0,q1,q2,q3,q4,q5⟩:=row6Z D5.out.rb D5.out.kept D5.out.hR (B:=G) (by omega) (.slice la1 l1.length lc1) (.slice la2 l2.length lc2) (.slice la3 l3.length lc3) (.int .i64 (lov:Int)) (.int .i64 (hiv:Int)) (.int .i64 (stv:Int));refine bodyPost_ret (v:=.tuple #[netV (⟨la1,lc1,la2,lc2,la3,lc3,X1,r2,r3⟩:Na) (⟨l1,l2,l3,(lov:Int),(hiv:Int),(stv:Int)⟩:Nt),.int .i64 0]) (by simp [results,Tryz.results9,go_sem,q0,q1,q2,q3,q4,q5]) rfl ?_;exact ⟨h1,.inl ⟨HP1.out,(⟨la1,lc1,la2,lc2,la3,lc3,X1,r2,r3⟩:Na),by rw [HP2.out],by rw [HP2.out];exact HNET.out _ ((Far2.kept K4.out G none).tr h2)⟩⟩
      . have HB:=Hid.mk' (HBAD.out (nwriteL (⟨l1,l2,l3,(lov:Int),(hiv:Int),(stv:Int)⟩:Nt) ≠ L) (fun hr h hP=>hP (by rw [h.1];exact (nwrite_read HLT.out hr).1)) hw);have ht:((textOf (nwriteL (⟨l1,l2,l3,(lov:Int),(hiv:Int),(stv:Int)⟩:Nt))).toList == (textOf L).toList)=false:=by rw [HTX.out];exact decide_eq_false hw
        rw [netE_yes hb];generalize textOf (nwriteL (⟨l1,l2,l3,(lov:Int),(hiv:Int),(stv:Int)⟩:Nt))=T1 at *;generalize textOf L=T2 at *;generalize (nwriteL (⟨l1,l2,l3,(lov:Int),(hiv:Int),(stv:Int)⟩:Nt)).length=q at *;clear HTX HBAD hb hw;go_wp2;exact retb_post ⟨⟨(.mk _ _ undef undef ..),rfl⟩,HB.out,bad6 D5.out⟩
theorem dnr_short {w:World} {a:Option Addr} {n c:Nat} {L:List Nat} (h:Come w a n c L) (h4:n < 4):Calls Tryz.prog 9 #[.slice a n c] w (NReadP w L):=by
 have hB:nreadB L=false:=by unfold nreadB;rw [decide_eq_false (by have:=h.by_.size;omega)];rfl
 have HB:=Hid.mk' hB;clear h hB;go_enter Tryz.func9,Tryz.ntmps9;go_wp2;refine bodyPost_ret (v:=.tuple #[netV Y0 N0,.int .i64 8]) (by simp [results,Tryz.results9,go_sem,Y0,N0]) rfl ?_;exact ⟨Kept.alloc _ _ _ (0,0) _,.inr ⟨HB.out,rfl⟩⟩
theorem dnread_any {w:World} {a:Option Addr} {n c:Nat} {L:List Nat} (h:Come w a n c L) (hn:n <= 20000):Calls Tryz.prog 9 #[.slice a n c] w (NReadP w L):=by
 by_cases h4:n < 4
 . exact dnr_short h h4
 . obtain ⟨m,rfl⟩:∃ m,n=m + 4:=⟨n - 4,by omega⟩
   exact dnr_long h hn
theorem wpList_joinS {ops:Array Oper} {rest:List Oper} {o:Oper} {act:Act} {Q:Exit -> Act -> World -> Prop} {w:World} (hgd:o.guard=none) (s x:Operand)
 (ho:o.op=.call { callee:=.builtin .append,args:=#[s,x],argTypes:=#[27,27] })
 (base:Nat) (hs:act.eval s=.slice none 0 0) (a:Option Addr) (m c:Nat) (M:List Nat) (hx:act.eval x=.slice a m c) (hB:By w a m M) (ha:a=none -> c=0)
 (hm:m <= 70368744177664) (hbase:base <= w.heap.size)
 (h:∀ a' cap w',Mine w' base a' m cap M -> Kept w w' none -> wpList Tryz.prog ops Q rest (act.put o.dst (.slice a' m cap)) w'):wpList Tryz.prog ops Q (o :: rest) act w:=by
 refine wpList_join hgd s x ho base (.slice none 0 0) 0 [] hs (World.ownsRow_nil _ _ _ _) a m c M hx hB ha (by omega) hbase ?_;intro a' cap w' h1 h2;rw [Nat.zero_add] at h1 ⊢;exact h a' cap w' h1 h2
theorem capS:Cap none 0 0:=⟨fun _=>⟨rfl,rfl⟩,Nat.le_refl _,Nat.zero_le _⟩
theorem netat_0 (w:World):NetAt w Y0 N0:=by
 have hi:i64B 0:=by unfold i64B;omega
 exact ⟨⟨fun h=>absurd h (Nat.lt_irrefl 0)⟩,fun i h=>absurd h (Nat.not_lt_zero i),⟨fun h=>absurd h (Nat.lt_irrefl 0)⟩,fun i h=>absurd h (Nat.not_lt_zero i),⟨fun h=>absurd h (Nat.lt_irrefl 0)⟩,fun i h=>absurd h (Nat.not_lt_zero i),capS,capS,capS,fun g h=>(nomatch h),fun g h=>(nomatch h),⟨hi,hi,hi⟩⟩
def RnN (L:List Nat):Nt:=if nreadB L=true then readN L else N0
def RnE (L:List Nat):Int:=if nreadB L=true then 0 else 8
theorem nread_one {w w':World} {e:Ending} {L:List Nat} (h:NReadP w L e w'):∃ Y,e=.returned (.tuple #[netV Y (RnN L),.int .i64 (RnE L)]) /\ NetAt w' Y (RnN L) /\ Kept w w' none:=by
 obtain ⟨hk,⟨hr,Y,rfl,hs⟩ | ⟨hr,rfl⟩⟩:=h
 . exact ⟨Y,by unfold RnN RnE;rw [if_pos hr,if_pos hr],by unfold RnN;rw [if_pos hr];exact hs,hk⟩
 . exact ⟨Y0,by unfold RnN RnE;rw [hr];rfl,by unfold RnN;rw [hr];exact netat_0 w',hk⟩
theorem Come.keptS {w w':World} {a:Option Addr} {n c:Nat} {L:List Nat} (h:Come w a n c L) (q:Kept w w' none):Come w' a n c L:=⟨h.by_.kept q,h.nil,h.room,h.max⟩
theorem nby_long {Y:Na} {N:Nt} {w:World} (h:NetAt w Y N) (hT:Tabb w) (hTb:Table w) {a:Option Addr} {n c:Nat} {L:List Nat} (hA:Come w a n c L) (hl:20000 < n):Calls Tryz.prog 3 #[netV Y N,.slice a n c] w fun e w'=>e=.returned (.bool true) /\ Below w.heap.size w w':=by
 have hlb:decide ((20000:Int) < (n:Int))=true:=by simp;omega
 have hkA:Kept w (w.alloc (.cells (cn9 Y N) 26)) none:=Kept.alloc _ _ _ _ _;have hsb:=nbx_alloc h 26;obtain ⟨WA,hWA⟩:∃ WA,w.alloc (.cells (cn9 Y N) 26)=WA:=⟨_,rfl⟩
 rw [hWA] at hkA hsb;have HK:=Hid.mk' hkA;have HSB:=Hid.mk' hsb;have HS:=Hid.mk' (h.kept hkA);have HT:=Hid.mk' (hT.kept hkA);have HTb:=Hid.mk' (hTb.kept hkA);have HA:=Hid.mk' (hA.keptS hkA);have hAm:=hA.by_.max;have HAL:=Hid.mk' hA.by_.lt;have s0_:∀ w',Kept WA w' none -> w'.cell? ⟨w.heap.size,0,none⟩=some (.slice Y.s N.sites.length Y.sc):=fun w' q=>(HSB.out.kept q).c0
 have s1_:∀ w',Kept WA w' none -> w'.cell? ⟨w.heap.size,1,none⟩=some (.slice Y.u N.subs.length Y.uc):=fun w' q=>(HSB.out.kept q).c1
 have s2_:∀ w',Kept WA w' none -> w'.cell? ⟨w.heap.size,2,none⟩=some (.slice Y.d N.weds.length Y.dc):=fun w' q=>(HSB.out.kept q).c2
 have s3_:∀ w',Kept WA w' none -> w'.cell? ⟨w.heap.size,3,none⟩=some (.int .i64 N.low):=fun w' q=>(HSB.out.kept q).c3
 have s4_:∀ w',Kept WA w' none -> w'.cell? ⟨w.heap.size,4,none⟩=some (.int .i64 N.high):=fun w' q=>(HSB.out.kept q).c4
 have s5_:∀ w',Kept WA w' none -> w'.cell? ⟨w.heap.size,5,none⟩=some (.int .i64 N.step):=fun w' q=>(HSB.out.kept q).c5
 have hK0:=Kept.refl WA none;clear h hT hTb hA hkA hsb;go_enter Tryz.func3,Tryz.ntmps3;go_wp2_with (first | rw [hWA]);go_at_call 4;refine (ngreat_any (HS.out.kept hK0)).mono ?_;rintro e w1 ⟨gr,rfl,hfew,hk1⟩;have hK1:Kept WA w1 none:=hK0.tr hk1
 cases gr with
 | true =>
  go_wp2;go_ret;exact ⟨rfl,(HK.out.tr hK1).below⟩
 | false =>
  have HF1:=Hid.mk' (hfew rfl);clear hfew;go_wp2;go_ret;exact ⟨rfl,(HK.out.tr hK1).below⟩
theorem nby_go {Y:Na} {N:Nt} {w:World} (h:NetAt w Y N) (hT:Tabb w) (hTb:Table w) {a:Option Addr} {n c:Nat} {L:List Nat} (hA:Come w a n c L) (hl:n <= 20000):Calls Tryz.prog 3 #[netV Y N,.slice a n c] w fun e w'=>e=.returned (.bool true) /\ Below w.heap.size w w':=by
 have hlb:decide ((20000:Int) < (n:Int))=false:=by simp;omega
 have hkA:Kept w (w.alloc (.cells (cn9 Y N) 26)) none:=Kept.alloc _ _ _ _ _;have hsb:=nbx_alloc h 26;obtain ⟨WA,hWA⟩:∃ WA,w.alloc (.cells (cn9 Y N) 26)=WA:=⟨_,rfl⟩
 rw [hWA] at hkA hsb;have HK:=Hid.mk' hkA;have HSB:=Hid.mk' hsb;have HS:=Hid.mk' (h.kept hkA);have HT:=Hid.mk' (hT.kept hkA);have HTb:=Hid.mk' (hTb.kept hkA);have HA:=Hid.mk' (hA.keptS hkA);have hAm:=hA.by_.max;have HAL:=Hid.mk' hA.by_.lt;have s0_:∀ w',Kept WA w' none -> w'.cell? ⟨w.heap.size,0,none⟩=some (.slice Y.s N.sites.length Y.sc):=fun w' q=>(HSB.out.kept q).c0
 have s1_:∀ w',Kept WA w' none -> w'.cell? ⟨w.heap.size,1,none⟩=some (.slice Y.u N.subs.length Y.uc):=fun w' q=>(HSB.out.kept q).c1
 have s2_:∀ w',Kept WA w' none -> w'.cell? ⟨w.heap.size,2,none⟩=some (.slice Y.d N.weds.length Y.dc):=fun w' q=>(HSB.out.kept q).c2
 have s3_:∀ w',Kept WA w' none -> w'.cell? ⟨w.heap.size,3,none⟩=some (.int .i64 N.low):=fun w' q=>(HSB.out.kept q).c3
 have s4_:∀ w',Kept WA w' none -> w'.cell? ⟨w.heap.size,4,none⟩=some (.int .i64 N.high):=fun w' q=>(HSB.out.kept q).c4
 have s5_:∀ w',Kept WA w' none -> w'.cell? ⟨w.heap.size,5,none⟩=some (.int .i64 N.step):=fun w' q=>(HSB.out.kept q).c5
 have hK0:=Kept.refl WA none;clear h hT hTb hA hkA hsb;go_enter Tryz.func3,Tryz.ntmps3;go_wp2_with (first | rw [hWA]);go_at_call 4;refine (ngreat_any (HS.out.kept hK0)).mono ?_;rintro e w1 ⟨gr,rfl,hfew,hk1⟩;have hK1:Kept WA w1 none:=hK0.tr hk1
 cases gr with
 | true =>
  go_wp2;go_ret;exact ⟨rfl,(HK.out.tr hK1).below⟩
 | false =>
  have HF1:=Hid.mk' (hfew rfl);clear hfew;have HC1:Hid (∀ w' Y',Kept WA w' none -> NetAt w' Y' N -> Calls Tryz.prog 6 #[netV Y' N] w' fun e v=>∃ a' c',e=.returned (.tuple #[.slice a' (nwriteL N).length c',.int .i64 (netE N)]) /\ Mine v w'.heap.size a' (nwriteL N).length c' (nwriteL N) /\ Kept w' v none):=fun w' Y' q hs=>nwrite_any hs (fun hb=>npos_may hb) (HT.out.kept q) (HTb.out.kept q)
  have HC2:Hid (∀ w' Y',Kept WA w' none -> NetAt w' Y' N -> Calls Tryz.prog 7 #[netV Y' N] w' fun e v=>∃ a' c',e=.returned (.tuple #[.slice a' (nwriteL N).length c',.int .i64 (netE N)]) /\ Mine v w'.heap.size a' (nwriteL N).length c' (nwriteL N) /\ Kept w' v none):=fun w' Y' q hs=>rwrite6_any hs HF1.out
  have HC3:Hid (∀ w' a1 c1,Kept WA w' none -> Come w' a1 n c1 L -> Calls Tryz.prog 8 #[.slice a1 n c1] w' fun e v=>∃ Y',e=.returned (.tuple #[netV Y' (RnN L),.int .i64 (RnE L)]) /\ NetAt v Y' (RnN L) /\ Kept w' v none):=fun w' a1 c1 q hc=>(nread_any hc (HT.out.kept q) (HTb.out.kept q)).mono (fun _ _ hh=>nread_one hh)
  have HC4:Hid (∀ w' a1 c1,Kept WA w' none -> Come w' a1 n c1 L -> Calls Tryz.prog 9 #[.slice a1 n c1] w' fun e v=>∃ Y',e=.returned (.tuple #[netV Y' (RnN L),.int .i64 (RnE L)]) /\ NetAt v Y' (RnN L) /\ Kept w' v none):=fun w' a1 c1 q hc=>(dnread_any hc hl).mono (fun _ _ hh=>nread_one hh)
  have HTW:Hid (∀ w',Kept WA w' none -> Calls Tryz.prog 5 #[netV Y N] w' fun e v=>∃ Y',e=.returned (netV Y' N) /\ NetAt v Y' N /\ Kept w' v none):=fun w' q=>ntwin_any (HS.out.kept q) HF1.out
  have HLW:=Hid.mk' (nwriteL_lt N);clear HF1;generalize nwriteL N=PL at *;generalize netE N=pe at *;generalize RnN L=RS at *;generalize RnE L=re at *;go_wp2_with (first | rw [hW11] | rw [hW9] | rw [hW4] | (have hgo:=hd17;clear hgo;go_at_call 10;refine (rsame_net (HSO.out.kept hO17) (HS.out.kept hA17)).mono ?_;rintro e w19 ⟨rfl,hk⟩;have hA19:Kept WA w19 none:=hA17.tr hk;have hO19:Kept W4 w19 none:=hO17.tr hk;have hI19:Kept w5 w19 none:=hI17.tr hk;have hP19:Kept w6 w19 none:=hP17.tr hk;have hQ19:Kept w7 w19 none:=hQ17.tr hk;have hX19:Kept W9 w19 none:=hX17.tr hk;have hY19:Kept W11 w19 none:=hY17.tr hk;clear hA17 hO17 hI17 hP17 hQ17 hX17 hY17;have t5:=run_text (HIN.out.by_.kept hI19) c5;have t6:=run_text (HA.out.by_.kept hA19) c;obtain ⟨T3,hT3⟩:∃ T,textOf L=T:=⟨_,rfl⟩;rw [hT3] at t5 t6;clear hk hT3 hd17) | (go_at_call 10;refine (rsame_net (HSX.out.kept hXW11) (HSY.out.kept hYW11)).mono ?_;rintro e w17 ⟨rfl,hk⟩;have hA17:Kept WA w17 none:=hAW11.tr hk;have hO17:Kept W4 w17 none:=hOW11.tr hk;have hI17:Kept w5 w17 none:=hIW11.tr hk;have hP17:Kept w6 w17 none:=hPW11.tr hk;have hQ17:Kept w7 w17 none:=hQW11.tr hk;have hX17:Kept W9 w17 none:=hXW11.tr hk;have hY17:Kept W11 w17 none:=hYW11.tr hk;clear hAW11 hOW11 hIW11 hPW11 hQW11 hXW11 hYW11;have hd17:=trivial;clear hk) | (have hgo:=hXW9;clear hgo;go_at_call 9;refine (HC4.out _ _ _ hAW9 (HA.out.keptS hAW9)).mono ?_;rintro e w10 ⟨Y10,rfl,hsat,hk⟩;have hA10:Kept WA w10 none:=hAW9.tr hk;have hO10:Kept W4 w10 none:=hOW9.tr hk;have hI10:Kept w5 w10 none:=hIW9.tr hk;have hP10:Kept w6 w10 none:=hPW9.tr hk;have hQ10:Kept w7 w10 none:=hQW9.tr hk;have hX10:Kept W9 w10 none:=hXW9.tr hk;clear hAW9 hOW9 hIW9 hPW9 hQW9 hXW9;clear hk;have hk:Kept w10 (w10.alloc (.cells (cn9 Y10 RS) 26)) none:=Kept.alloc _ _ _ (0,0) _;have hbb:=nbx_alloc hsat 26;obtain ⟨W11,hW11⟩:∃ W11,w10.alloc (.cells (cn9 Y10 RS) 26)=W11:=⟨_,rfl⟩;rw [hW11] at hk hbb;have HYB:=Hid.mk' hbb;clear hbb;have y0_:∀ w',Kept W11 w' none -> w'.cell? ⟨w10.heap.size,0,none⟩=some (.slice Y10.s RS.sites.length Y10.sc):=fun w' q=>(HYB.out.kept q).c0;have y1_:∀ w',Kept W11 w' none -> w'.cell? ⟨w10.heap.size,1,none⟩=some (.slice Y10.u RS.subs.length Y10.uc):=fun w' q=>(HYB.out.kept q).c1;have y2_:∀ w',Kept W11 w' none -> w'.cell? ⟨w10.heap.size,2,none⟩=some (.slice Y10.d RS.weds.length Y10.dc):=fun w' q=>(HYB.out.kept q).c2;have y3_:∀ w',Kept W11 w' none -> w'.cell? ⟨w10.heap.size,3,none⟩=some (.int .i64 RS.low):=fun w' q=>(HYB.out.kept q).c3;have y4_:∀ w',Kept W11 w' none -> w'.cell? ⟨w10.heap.size,4,none⟩=some (.int .i64 RS.high):=fun w' q=>(HYB.out.kept q).c4;have y5_:∀ w',Kept W11 w' none -> w'.cell? ⟨w10.heap.size,5,none⟩=some (.int .i64 RS.step):=fun w' q=>(HYB.out.kept q).c5;have hAW11:Kept WA W11 none:=hA10.tr hk;have hOW11:Kept W4 W11 none:=hO10.tr hk;have hIW11:Kept w5 W11 none:=hI10.tr hk;have hPW11:Kept w6 W11 none:=hP10.tr hk;have hQW11:Kept w7 W11 none:=hQ10.tr hk;have hXW11:Kept W9 W11 none:=hX10.tr hk;clear hA10 hO10 hI10 hP10 hQ10 hX10;have HSY:=Hid.mk' (hsat.kept hk);have hYW11:=Kept.refl W11 none;have t1:=run_text ((MP.out.by HLW.out).kept hPW11) c6;have t2:=run_text ((MQ.out.by HLW.out).kept hQW11) c7;obtain ⟨T1,hT1⟩:∃ T,textOf PL=T:=⟨_,rfl⟩;rw [hT1] at t1 t2;clear hsat hk hT1) | (have hgo:=hQ7;clear hgo;go_at_call 8;refine (HC3.out _ _ _ hA7 (HIN.out.keptS hI7)).mono ?_;rintro e w8 ⟨Y8,rfl,hsat,hk⟩;have hA8:Kept WA w8 none:=hA7.tr hk;have hO8:Kept W4 w8 none:=hO7.tr hk;have hI8:Kept w5 w8 none:=hI7.tr hk;have hP8:Kept w6 w8 none:=hP7.tr hk;have hQ8:Kept w7 w8 none:=hQ7.tr hk;clear hA7 hO7 hI7 hP7 hQ7;clear hk;have hk:Kept w8 (w8.alloc (.cells (cn9 Y8 RS) 26)) none:=Kept.alloc _ _ _ (0,0) _;have hbb:=nbx_alloc hsat 26;obtain ⟨W9,hW9⟩:∃ W9,w8.alloc (.cells (cn9 Y8 RS) 26)=W9:=⟨_,rfl⟩;rw [hW9] at hk hbb;have HXB:=Hid.mk' hbb;clear hbb;have x0_:∀ w',Kept W9 w' none -> w'.cell? ⟨w8.heap.size,0,none⟩=some (.slice Y8.s RS.sites.length Y8.sc):=fun w' q=>(HXB.out.kept q).c0;have x1_:∀ w',Kept W9 w' none -> w'.cell? ⟨w8.heap.size,1,none⟩=some (.slice Y8.u RS.subs.length Y8.uc):=fun w' q=>(HXB.out.kept q).c1;have x2_:∀ w',Kept W9 w' none -> w'.cell? ⟨w8.heap.size,2,none⟩=some (.slice Y8.d RS.weds.length Y8.dc):=fun w' q=>(HXB.out.kept q).c2;have x3_:∀ w',Kept W9 w' none -> w'.cell? ⟨w8.heap.size,3,none⟩=some (.int .i64 RS.low):=fun w' q=>(HXB.out.kept q).c3;have x4_:∀ w',Kept W9 w' none -> w'.cell? ⟨w8.heap.size,4,none⟩=some (.int .i64 RS.high):=fun w' q=>(HXB.out.kept q).c4;have x5_:∀ w',Kept W9 w' none -> w'.cell? ⟨w8.heap.size,5,none⟩=some (.int .i64 RS.step):=fun w' q=>(HXB.out.kept q).c5;have hAW9:Kept WA W9 none:=hA8.tr hk;have hOW9:Kept W4 W9 none:=hO8.tr hk;have hIW9:Kept w5 W9 none:=hI8.tr hk;have hPW9:Kept w6 W9 none:=hP8.tr hk;have hQW9:Kept w7 W9 none:=hQ8.tr hk;clear hA8 hO8 hI8 hP8 hQ8;have HSX:=Hid.mk' (hsat.kept hk);have hXW9:=Kept.refl W9 none;clear hsat hk) | (have hgo:=hP6;clear hgo;go_at_call 7;refine (HC2.out _ _ hA6 (HS.out.kept hA6)).mono ?_;rintro e w7 ⟨a7,c7,rfl,hm,hk⟩;have MQ:=Hid.mk' hm;have hA7:Kept WA w7 none:=hA6.tr hk;have hO7:Kept W4 w7 none:=hO6.tr hk;have hI7:Kept w5 w7 none:=hI6.tr hk;have hP7:Kept w6 w7 none:=hP6.tr hk;have hQ7:=Kept.refl w7 none;clear hm hk hA6 hO6 hI6 hP6) | (have hgo:=hI5;clear hgo;go_at_call 6;refine (HC1.out _ _ hA5 (HSO.out.kept hO5)).mono ?_;rintro e w6 ⟨a6,c6,rfl,hm,hk⟩;have MP:=Hid.mk' hm;have hA6:Kept WA w6 none:=hA5.tr hk;have hO6:Kept W4 w6 none:=hO5.tr hk;have hI6:Kept w5 w6 none:=hI5.tr hk;have hP6:=Kept.refl w6 none;clear hm hk hA5 hO5 hI5) | (have hgo:=hA4;clear hgo;at_builtin;refine wpList_joinS (by rfl) _ _ (by rfl) W4.heap.size (by rfl) a n c L (by rfl) (HA.out.by_.kept hA4) HA.out.nil (by omega) (Nat.le_refl _) ?_;intro a5 c5 w5 hm hk;have HIN:=Hid.mk' (hm.come HAL.out);have hA5:Kept WA w5 none:=hA4.tr hk;have hO5:Kept W4 w5 none:=hk;have hI5:=Kept.refl w5 none;clear hm hk hA4 hO4) | (go_at_call 5;refine (HTW.out _ hK1).mono ?_;rintro e w3 ⟨Y2,rfl,hsat,hk3⟩;have hk:Kept w3 (w3.alloc (.cells (cn9 Y2 N) 26)) none:=Kept.alloc _ _ _ (0,0) _;have hbb:=nbx_alloc hsat 26;obtain ⟨W4,hW4⟩:∃ W4,w3.alloc (.cells (cn9 Y2 N) 26)=W4:=⟨_,rfl⟩;rw [hW4] at hk hbb;have HOB:=Hid.mk' hbb;clear hbb;have o0_:∀ w',Kept W4 w' none -> w'.cell? ⟨w3.heap.size,0,none⟩=some (.slice Y2.s N.sites.length Y2.sc):=fun w' q=>(HOB.out.kept q).c0;have o1_:∀ w',Kept W4 w' none -> w'.cell? ⟨w3.heap.size,1,none⟩=some (.slice Y2.u N.subs.length Y2.uc):=fun w' q=>(HOB.out.kept q).c1;have o2_:∀ w',Kept W4 w' none -> w'.cell? ⟨w3.heap.size,2,none⟩=some (.slice Y2.d N.weds.length Y2.dc):=fun w' q=>(HOB.out.kept q).c2;have o3_:∀ w',Kept W4 w' none -> w'.cell? ⟨w3.heap.size,3,none⟩=some (.int .i64 N.low):=fun w' q=>(HOB.out.kept q).c3;have o4_:∀ w',Kept W4 w' none -> w'.cell? ⟨w3.heap.size,4,none⟩=some (.int .i64 N.high):=fun w' q=>(HOB.out.kept q).c4;have o5_:∀ w',Kept W4 w' none -> w'.cell? ⟨w3.heap.size,5,none⟩=some (.int .i64 N.step):=fun w' q=>(HOB.out.kept q).c5;have HSO:=Hid.mk' (hsat.kept hk);have hA4:Kept WA W4 none:=(hK1.tr hk3).tr hk;have hO4:=Kept.refl W4 none;clear hsat hk hk3 hK1))
  go_ret;exact ⟨rfl,(HK.out.tr hA19).below⟩
theorem nby_any {Y:Na} {N:Nt} {w:World} (h:NetAt w Y N) (hT:Tabb w) (hTb:Table w) {a:Option Addr} {n c:Nat} {L:List Nat} (hA:Come w a n c L):Calls Tryz.prog 3 #[netV Y N,.slice a n c] w fun e w'=>e=.returned (.bool true) /\ Below w.heap.size w w':=by
 by_cases hl:n <= 20000
 . exact nby_go h hT hTb hA hl
 . exact nby_long h hT hTb hA (by omega)
end Go.Proofs.YtakilpnbjihibaaGreatDoor
