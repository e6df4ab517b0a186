import Derived.Test.YtgginbpmebgkcaaGreatDoorMBA
import Derived.Test.YtgginbpmebgkcaaGreatDoorMBB
namespace Go.Proofs.YtgginbpmebgkcaaGreatDoor
open Go.RowKit Go.Proofs.Tryz
attribute [local go_sem ↓] Go.wp_at_zero Go.wp_at_succ
set_option linter.unusedVariables false
set_option maxRecDepth 100000
set_option maxHeartbeats 25600000
section
theorem p7{P:Prop}(h:P:=by
 go_roundg (Qb2 Z T cr)
 case measure=>exact MU.u
 case rel=>exact ⟨T,cr,ar,a2,ah,rfl,ay,S3,r,aX,K,bq,AN⟩):P:=h
variable{n:Nat}{co:Option Addr}{F:Nat->Nat×Nat}
theorem VB.told{z Q:Nat}{wr w':World}{aa:Option Addr}(h:VB (z+4) Q wr co n F)(hg:wr.grownBy w' (Qt aa))(hf:∀g,Qt aa=some g->g<z\/Q<=g)(v:Value)(i cl:Int)(tv:Value)(D s Mx:Int):VB (z+4) Q (wT (wR w' z v i cl) (z+1) tv D s Mx) co n F:=
 ((h.grown hg (fun k e=>by have:=hf k e;omega)).grown (QD w' z v i cl) (fun k e=>dJ)).grown (Qac _ _ _ _ _ _) (fun k e=>dJ)
def Qb2(Z i:Nat)(c:Int):Nat:=if c=0 then 1+(8*Z-i) else 0
theorem Qfn{Z i i':Nat}{c':Int}(h:c'=0->i<i')(hi:c'=0->i'<=8*Z):Qb2 Z i' c'<Qb2 Z i 0:=by
 unfold Qb2;rw [if_pos rfl];split
 ·rename_i e
  have:=h e;have:=hi e;omega
 ·omega
theorem QkQ(pr:List Int)(D:Nat)(r:RR)(all data:List Int):(tlP pr D r all data).1.1=r.1:=by
 unfold tlP;split
 ·split<;>rfl
 ·rfl
theorem QoO(zs:List Int)(r:RR)(tb:List Int):r.1<=(sy zs r tb).1.1:=by
 unfold sy;split
 ·dsimp only;omega
 ·exact ez
theorem VB.wide{lo hi hi':Nat}{w:World}(h:VB lo hi w co n F)(hh:hi<=hi'):VB lo hi' w co n F:=fun h0=>by
 obtain ⟨g,h1,h2,h3,h4⟩:=h h0
 exact ⟨g,h1,h2,dk,h4⟩
theorem Qgq(ao:Option Addr)(Z cap:Nat)(zs:List Int)(hZ:zs.length=Z)(i:Nat)(a:Option Addr)(c:Nat)(all:List Int)(D s:Nat)(Mx:Int)(pr:List Int)(hMx:dm (Mx=100000-(pr.length:Int)))(ls ds:List Int)(b:Bool)(k:Int)(cf:IC)(lo:Option Addr)(lc:Nat)(eo:Option Addr)(ec:Nat)(B:Nat)(w:World)(hr:Q1 w ao zs)(hrb:∀ad,ao=some ad->ad.block<B)(hz:Qh zs)(hzl:zs.length<=65536)(ho:Qi 5 B w a c all)(hB:B<=w.heap.size)(hs:s<=32768)(hDs:D<=32768)(hl1:Qv w lo ls)(hl2:Qv w eo ds)(hk1:okC ls=true)(hk2:okC ds=true)(hn1:ls.length<=320)(hn2:ds.length<=320)(hA:Vu s zs pr D k cf 12 (Vz ls ds b) (i,0) all):
  Calls prog 82 #[.agg #[.slice ao Z cap,.int .i64 (i:Nat),.int .i64 0],.agg #[.slice a all.length c,.int .i64 (D:Nat),.int .i64 (s:Nat),.int .i64 Mx],.slice lo ls.length lc,.slice eo ds.length ec] w fun e w'=>V8 (.slice ao Z cap) (D:Nat) (s:Nat) Mx B a (fun r' all'=>Vu s zs pr D k cf 8 (fun c=>c.last=b) r' all'/\i<=r'.1) e w w':=by
 refine pZ ?_;intro an E;have aq:dm (∀W i cl co cc,w.grownBy W (Qt a)->i<=8*Z->Qba W co ls.length (code ls)->Calls prog 120 #[.agg #[.slice ao Z cap,.int .i64 (i:Nat),.int .i64 cl],.slice co ls.length cc] W fun e w'=>e=.returned (.tuple #[.agg #[.slice ao Z cap,.int .i64 ((sy zs (i,cl) ls).1.1:Nat),.int .i64 (sy zs (i,cl) ls).1.2],.int .i64 ((sy zs (i,cl) ls).2:Nat)])/\Below W.heap.size W w'):=fun W i cl co cc hW hi hcd=>by subst hZ;exact QdT ao cap zs i cl ls co ls.length cc W (E.u W hW) hz hzl hi (fun _=>⟨hk1,rfl,hcd⟩)
 have aT:dm (∀W i a c all g x,Qi 5 B W a c all->B<=W.heap.size->Q1 W (some ⟨g,0,none⟩) [x]->D<=all.length->all.length<=200000->Calls prog 118 #[.agg #[.slice ao Z cap,.int .i64 (i:Nat),.int .i64 0],.agg #[.slice a all.length c,.int .i64 (D:Nat),.int .i64 (s:Nat),.int .i64 Mx],.slice (some ⟨g,0,none⟩) 1 1] W fun e w'=>V8 (.slice ao Z cap) (D:Nat) (s:Nat) Mx B a (fun r' all'=>(r',all')=tlP pr D (i,0) all [x]) e W w'):=fun W i a c all g x h1 h2 h3 h5 h6=>Qdm ao Z cap i 0 a c all D s Mx pr hMx (some ⟨g,0,none⟩) 1 [x] B W h1 h2 h3 (fun e=>dx) h5 h6 dr
 have b7:dm (∀W (aw:Option Addr) i a1 c all S co cc,aw=a->w.grownBy W (Qt aw)->Qi 5 B W a1 c all->B<=W.heap.size->256<S->S<=285->Qba W co ds.length (code ds)->Vu s zs pr D k cf 13 (fun c=>Vz ls ds b c/\c.base=(VF S).1/\c.extra=(VF S).2) (i,0) all->Calls prog 123 #[.agg #[.slice ao Z cap,.int .i64 (i:Nat),.int .i64 0],.agg #[.slice a1 all.length c,.int .i64 (D:Nat),.int .i64 (s:Nat),.int .i64 Mx],.int .i64 (S:Nat),.slice co ds.length cc] W fun e w'=>V8 (.slice ao Z cap) (D:Nat) (s:Nat) Mx B a1 (fun r' all'=>Vu s zs pr D k cf 12 (Vz ls ds b) r' all'/\i<=r'.1) e W w'):=fun W aw i a1 c all S co cc e0 hW h1 h2 h3 h4 h5 h6=>Qk0 ao Z cap zs hZ i a1 c all D s S Mx pr hMx ls ds b k cf co ds.length cc B W (E.u W (e0▸hW)) hz hzl h1 h2 h3 h4 hs hDs ⟨hk2,rfl,h5⟩ h6
 have a4:=Qe (fun W (hW:Below w.heap.size w W)=>QbY lo lc ls W (hl1.below hW) dk);have aA:=Qe (fun W (hW:Below w.heap.size w W)=>QbY eo ec ds W (hl2.below hW) dk);have bh:nC ls=ls.length:=by unfold nC;rw [if_pos hk1]
 have bc:nC ds=ds.length:=by unfold nC;rw [if_pos hk2]
 have bo:=Qe bh;have bt:=Qe bc;have aU:i<=8*Z:=iy;have bm:=Qe hDs;refine pT ?_;intro S L HZ;have A0:=Qe hA;have av:=Qe hZ;have aQ:=Qe hzl;have aW:=Qe hB;clear hr hrb hz ho hA hZ hzl hDs hl1 hl2 hk1 hk2 an bh bc E hB hn1 hn2;go_enter func82,ntmps82;go_upto_region 1 with fail;rw [Qi3];generalize w4 w (.slice ao Z cap) (i:Nat) 0 (.slice a all.length c) (D:Nat) (s:Nat) Mx 85 91=W at*;go_wp2_with fail;refine Calls.mono (a4.u _ L.u) ?_;rintro e w1 ⟨⟨bu,b6,rfl,q⟩,hb⟩;rw [bo.u] at q ⊢;have C1:=Qe<|Qge.codesIn (lo:=w.heap.size+4) q dk (fun g I _=>I.lt)
 have S1:=Qe<|S.u.below hb
 have L1:=Qe<|L.u.trans (hb.mono L.u.size)
 have ak:w.heap.size+4<=w1.heap.size:=eT;clear q hb S L a4 HZ;go_wp2_with fail;refine Calls.mono (aA.u _ L1.u) ?_;rintro e w2 ⟨⟨bp,b5,rfl,aS⟩,hb⟩;rw [bt.u] at aS ⊢;have bb:w1.heap.size<=w2.heap.size:=hb.size;have C2:=Qe<|Qge.codesIn (lo:=w.heap.size+4) aS dk (fun g I _=>I.lt)
 have f:=Qe<|VB.wide (C1.u.below hb) bb
 have S:=Qe<|S1.u.below hb
 clear aS hb S1 L1 aA C1;have C1:=f;clear f;obtain ⟨Q,b3⟩:=dt w2.heap.size;have a0:Q<=w2.heap.size:=dk;rw [b3] at C1 C2;clear bb ak b3;have ax:dm (∀g,Qt a=some g->Qt a=some g\/Q<=g):=fun g e=>.inl e
 have A1:dm (Vu s zs pr D k cf 12 (Vz ls ds b) (i,0) all/\i<=i):=⟨A0.u,Nat.le_refl _⟩;clear A0;go_upto_region 3 with fail;go_loopg [12] (Qb2 Z i 0) (fun n _ wr=>∃(y:Nat) (c':Int) (aa:Option Addr) (ca:Nat) (al:List Int),dm (Qb2 Z y c'=n)/\y<=8*Z/\dm (SI w a B wr (.slice ao Z cap) ((y:Nat):Int) c' aa ca al (D:Nat) (s:Nat) Mx)/\dm (VB (w.heap.size+4) Q wr bu ls.length (code ls))/\dm (VB (w.heap.size+4) Q wr bp ds.length (code ds))/\Q<=wr.heap.size/\dm (∀g,Qt aa=some g->Qt a=some g\/Q<=g)/\dm (Vu s zs pr D k cf 12 (Vz ls ds b) (y,c') al/\i<=y))
 case atStart=>exact ⟨i,0,a,c,all,rfl,aU,S,C1,C2,a0,ax,A1⟩
 case round=>
  clear S C1 C2 a0 ax A1 aU;obtain ⟨y,c',aa,ca,al,a9,a8,S,C1,C2,a0,HF,A⟩:=hrel;by_cases I:c'=0
  ·subst I
   obtain ⟨i1,c1,x,hY⟩:=dH (sy zs (y,0) ls);obtain ⟨bd,j,M⟩:=QqE aQ.u A.u.1 hY;have aG:i1<=8*Z:=by rw [<-av.u];exact bd
   have aL:=A.u.1.len;have au:=Qe aL;have bk:dm (y<=i1):=by have:=QoO zs (y,0) ls;rw [hY] at this;exact this
   have bl:=Qe hY;have a7:=Qe j;have p:=Qe M;have H:=Qe A.u.2;clear hY j M bd aL A;refine dG ?_;intro b0 b1 b2 C t0 t1 t2 t3 V u x2 t y0 F y2 y3 P l;clear C t0 t1 t2 t3 V u x2 t y0 F y2 y3 P l;go_upto_region 5 with fail;clear b0 b1 b2;refine dG ?_;intro b0 b1 b2 C t0 t1 t2 t3 V u x2 t y0 F y2 y3 P l;clear C t0 t1 t2 t3 V u x2 t y0 F y2 y3 P l;go_wp2_with fail;clear b0 b1 b2;refine Calls.mono (aq.u _ y 0 bu b6 S.u.gr a8 C1.u.reads) ?_;rintro e w1 ⟨rfl,hb⟩;rw [bl.u];dsimp only;have O:=Qe<|S.u.below hb
   have f:=Qe<|C1.u.below hb
   have R:=Qe<|C2.u.below hb
   have aI:Q<=w1.heap.size:=Nat.le_trans a0 hb.size;clear hb S C1 C2 a0;refine iC ?_;intro S;have C1:=Qe<|f.u.grown (QD w1 w.heap.size (.slice ao Z cap) ((i1:Nat):Int) c1) (fun k e=>dJ)
   have C2:=Qe<|R.u.grown (QD w1 w.heap.size (.slice ao Z cap) ((i1:Nat):Int) c1) (fun k e=>dJ)
   have a0:Q<=(wR w1 w.heap.size (.slice ao Z cap) ((i1:Nat):Int) c1).heap.size:=Nat.le_trans aI (QD w1 w.heap.size (.slice ao Z cap) ((i1:Nat):Int) c1).size;unfold wR at S C1 C2 a0;refine dO ?_;intro b0 b1 b2 C t0 t1 t2 t3 V u x2 t y0 F y2 y3 P l;refine dA ?_;intro ag G ae;clear C t0 t1 t2 t3 V u x2 t y0 F y2 y3 P l;go_upto_region 6 with fail;clear b0 b1 b2 ag G ae O f R aI;generalize ((w1.setCell ⟨w.heap.size,0,none⟩ (.slice ao Z cap)).setCell ⟨w.heap.size,1,none⟩ (.int .i64 ((i1:Nat):Int))).setCell ⟨w.heap.size,2,none⟩ (.int .i64 c1)=W at*;by_cases m:c1=0
   ·subst m
    obtain ⟨ab,bA,aJ,hL,X,hM⟩:=p.u rfl;by_cases aZ:x=256
    ·subst aZ
     have aj:dm (Vu s zs pr D k cf 8 (fun c=>c.last=b) (i1,0) al/\i<=i1):=⟨aJ rfl,by have:=H.u;omega⟩;clear aJ hL X hM p a7;refine dL ?_;intro b0 b1 b2 C t0 t1 t2 t3 V u x2 t y0 F y2 y3 P l;clear C t0 t1 t2 t3 V u x2 t y0 F y2 y3 P l;go_upto_region 7 with fail;clear b0 b1 b2;refine dL ?_;intro b0 b1 b2 C t0 t1 t2 t3 V u x2 t y0 F y2 y3 P l;refine er ?_;intro aE aD aC aK aO aB aF;clear C t P l;refine iD ?_;intro DN;clear S;go_region
     go_wp2_with fail;have U:=DN.u _ (.inl rfl);unfold wT wR at U;obtain ⟨⟨k0,k1,k2,k3,k4,k5,k6⟩,P1,P2⟩:=U;exact bodyPost_ret (v:=.tuple #[.agg #[.slice ao Z cap,.int .i64 ((i1:Nat):Int),.int .i64 0],.agg #[.slice aa (List.length al) ca,.int .i64 (D:Nat),.int .i64 (s:Nat),.int .i64 Mx]]) kF rfl d8
    ·have b9:((x:Int) == 256)=false:=du
     by_cases aY:x<256
     ·have aR:IntKind.u8.wrap (x:Int)=(x:Int):=dV
      have bP:decide ((x:Int)<256)=true:=decide_eq_true dk;have bx:=Qe<|hL aY
      have bj:=Qe<|Qfb W (x:Int) 5
      have N:=Qe ab;clear aJ hL X hM p a7 aZ ab;have d:B<=(W.alloc (.cells #[.int .u8 (x:Int)] 5)).heap.size:=p6;refine dG ?_;intro b0 b1 b2 C t0 t1 t2 t3 V u x2 t y0 F y2 y3 P l;clear C V u x2 t y0 F y2 y3 P l;have ba:Below W.heap.size W (W.alloc (.cells #[.int .u8 (x:Int)] 5)):=(Below.refl _ _).alloc (Nat.le_refl _) _;have J:=Qe<|S.u.below ba
      have bz:=Qe<|C1.u.below ba
      have br:=Qe<|C2.u.below ba
      have bn:Q<=(W.alloc (.cells #[.int .u8 (x:Int)] 5)).heap.size:=Nat.le_trans a0 ba.size;clear ba;go_wp2_with fail;clear b0 b1 b2 t0 t1 t2 t3;refine Calls.mono (aT.u _ i1 aa ca al _ (x:Int) J.u.own d bj.u au.u.1 (by have:=au.u;have:=bm.u;omega)) ?_;rintro e w3 ⟨T,cr,ar,a2,ah,rfl,ai,Y,af,a6⟩;have S3:=Qe<|J.u.told ai Y af (.slice ao Z cap) ((T:Nat):Int) cr
      have SG:=Qe<|J.u.sm.grown Y (fun k e=>J.u.u k e)
      have z:∀g,Qt aa=some g->g<w.heap.size\/Q<=g:=fun g e=>by
       rcases HF.u g e with h|h
       ·exact .inl (J.u.low g h)
       ·exact .inr h
      have r:=Qe<|bz.u.told Y z (.slice ao Z cap) ((T:Nat):Int) cr (.slice ar ah.length a2) (D:Nat) (s:Nat) Mx
      have aX:=Qe<|br.u.told Y z (.slice ao Z cap) ((T:Nat):Int) cr (.slice ar ah.length a2) (D:Nat) (s:Nat) Mx
      have bq:dm (∀g,Qt ar=some g->Qt a=some g\/Q<=g):=fun g e=>by
       rcases af g e with h|h
       ·exact HF.u g h
       ·exact .inr (Nat.le_trans bn h)
      have K:Q<=(wT (wR w3 w.heap.size (.slice ao Z cap) ((T:Nat):Int) cr) (w.heap.size+1) (.slice ar ah.length a2) (D:Nat) (s:Nat) Mx).heap.size:=Nat.le_trans bn (Nat.le_trans Y.size (Nat.le_trans (QD _ _ _ _ _).size (Qac _ _ _ _ _ _).size));have a3:=Qe a6;clear ai Y af a6 S C1 C2 HF z a0;clear J bz br bn;unfold wT wR at S3 r aX K;obtain ⟨⟨b0,b1,b2,C⟩,t0,t1,t2,t3,⟨_,_,_,_⟩,_,_,_,_,P,_⟩:=SG.u;refine dA ?_;intro ag G ae;refine eE ?_;intro aH aN aM aP;clear C P;go_wp2_with fail;clear b0 b1 b2 t0 t1 t2 t3 ag G ae aH aN aM aP SG;generalize ((((((w3.setCell ⟨w.heap.size,0,none⟩ (.slice ao Z cap)).setCell ⟨w.heap.size,1,none⟩ (.int .i64 ((T:Nat):Int))).setCell ⟨w.heap.size,2,none⟩ (.int .i64 cr)).setCell ⟨w.heap.size+1,0,none⟩ (.slice ar (List.length ah) a2)).setCell ⟨w.heap.size+1,1,none⟩ (.int .i64 (D:Nat))).setCell ⟨w.heap.size+1,2,none⟩ (.int .i64 (s:Nat))).setCell ⟨w.heap.size+1,3,none⟩ (.int .i64 Mx)=W9 at*;have a':T=i1:=by have:=QkQ pr D (i1,0) al [(x:Int)];rw [<-a3.u] at this;exact this
      have AN:dm (Vu s zs pr D k cf 12 (Vz ls ds b) (T,cr) ah/\i<=T):=⟨bx.u T cr ah a3.u.symm,by have:=H.u;have:=N.u;omega⟩;have MU:dm (Qb2 Z T cr<Qb2 Z y 0):=Qfn (fun _=>by have:=N.u;omega) (fun _=>dk);rw [a9.u] at MU;have ay:T<=8*Z:=dk;clear a' a3 bx;exact p7
     ·have bP:decide ((x:Int)<256)=false:=decide_eq_false dk
      by_cases bw:285<x
      ·have b4:decide ((x:Int) > 285)=true:=decide_eq_true dk
       have AN:dm (Vu s zs pr D k cf 12 (Vz ls ds b) (i1,3) al/\i<=i1):=⟨X bw,by have:=H.u;omega⟩;have MU:dm (Qb2 Z i1 3<Qb2 Z y 0):=Qfn (fun h=>dk) (fun h=>dk);rw [a9.u] at MU;have o:dm (VJ (i1,0) true=(i1,3)):=Qb0 i1;clear aJ hL X hM p a7 aZ;refine dG ?_;intro b0 b1 b2 C t0 t1 t2 t3 V u x2 t y0 F y2 y3 P l;clear C t0 t1 t2 t3 V u x2 t y0 F y2 y3 P l;go_wp2_with fail;clear b0 b1 b2;refine Calls.mono (Q0 ao Z cap i1 0 true _) ?_;rintro e w1 ⟨rfl,hb⟩;rw [o.u];dsimp only;have O:=Qe<|S.u.below hb
       have f:=Qe<|C1.u.below hb
       have R:=Qe<|C2.u.below hb
       have aI:Q<=w1.heap.size:=Nat.le_trans a0 hb.size;clear hb S C1 C2 a0;have S:=Qe<|O.u.setR (.slice ao Z cap) ((i1:Nat):Int) 3
       have C1:=Qe<|f.u.grown (QD w1 w.heap.size (.slice ao Z cap) ((i1:Nat):Int) 3) (fun k e=>dJ)
       have C2:=Qe<|R.u.grown (QD w1 w.heap.size (.slice ao Z cap) ((i1:Nat):Int) 3) (fun k e=>dJ)
       have a0:Q<=(wR w1 w.heap.size (.slice ao Z cap) ((i1:Nat):Int) 3).heap.size:=Nat.le_trans aI (QD w1 w.heap.size (.slice ao Z cap) ((i1:Nat):Int) 3).size;unfold wR at S C1 C2 a0;refine dO ?_;intro b0 b1 b2 C t0 t1 t2 t3 V u x2 t y0 F y2 y3 P l;refine dA ?_;intro ag G ae;clear C t0 t1 t2 t3 V u x2 t y0 F y2 y3 P l;go_wp2_with fail;clear b0 b1 b2 ag G ae O f R aI;generalize ((w1.setCell ⟨w.heap.size,0,none⟩ (.slice ao Z cap)).setCell ⟨w.heap.size,1,none⟩ (.int .i64 ((i1:Nat):Int))).setCell ⟨w.heap.size,2,none⟩ (.int .i64 3)=W at*;go_roundg (Qb2 Z i1 3)
       case measure=>exact MU.u
       case rel=>exact ⟨i1,3,aa,ca,al,rfl,aG,S,C1,C2,a0,HF,AN⟩
      ·have b4:decide ((x:Int) > 285)=false:=decide_eq_false dk
       have bs:=Qe<|hM dk dk
       have aV:256<x:=dk;have a5:x<=285:=dk;have N:=Qe ab;clear aJ hL X hM p a7 aZ ab aY bw;have d:B<=W.heap.size:=iE;refine dG ?_;intro b0 b1 b2 C t0 t1 t2 t3 V u x2 t y0 F y2 y3 P l;clear C V u x2 t y0 F y2 y3 P l;go_wp2_with fail;clear b0 b1 b2 t0 t1 t2 t3;refine Calls.mono (b7.u _ a i1 aa ca al x bp b5 rfl S.u.gr S.u.own d aV a5 C2.u.reads bs.u) ?_;rintro e w3 ⟨T,cr,ar,a2,ah,rfl,ai,Y,af,a6⟩;refine iF ?_;intro S3 SG;have z:∀g,Qt aa=some g->g<w.heap.size\/Q<=g:=fun g e=>by
        rcases HF.u g e with h|h
        ·exact .inl (S.u.low g h)
        ·exact .inr h
       have r:=Qe<|C1.u.told Y z (.slice ao Z cap) ((T:Nat):Int) cr (.slice ar ah.length a2) (D:Nat) (s:Nat) Mx
       have aX:=Qe<|C2.u.told Y z (.slice ao Z cap) ((T:Nat):Int) cr (.slice ar ah.length a2) (D:Nat) (s:Nat) Mx
       have bq:dm (∀g,Qt ar=some g->Qt a=some g\/Q<=g):=fun g e=>by
        rcases af g e with h|h
        ·exact HF.u g h
        ·exact .inr (Nat.le_trans a0 h)
       have K:Q<=(wT (wR w3 w.heap.size (.slice ao Z cap) ((T:Nat):Int) cr) (w.heap.size+1) (.slice ar ah.length a2) (D:Nat) (s:Nat) Mx).heap.size:=Nat.le_trans a0 (Nat.le_trans Y.size (Nat.le_trans (QD _ _ _ _ _).size (Qac _ _ _ _ _ _).size));have a3:=Qe a6;clear ai Y af a6 S C1 C2 HF z a0;unfold wT wR at S3 r aX K;obtain ⟨⟨b0,b1,b2,C⟩,t0,t1,t2,t3,⟨_,_,_,_⟩,_,_,_,_,P,_⟩:=SG.u;refine dA ?_;intro ag G ae;refine eE ?_;intro aH aN aM aP;clear C P;go_wp2_with fail;clear b0 b1 b2 t0 t1 t2 t3 ag G ae aH aN aM aP SG;generalize ((((((w3.setCell ⟨w.heap.size,0,none⟩ (.slice ao Z cap)).setCell ⟨w.heap.size,1,none⟩ (.int .i64 ((T:Nat):Int))).setCell ⟨w.heap.size,2,none⟩ (.int .i64 cr)).setCell ⟨w.heap.size+1,0,none⟩ (.slice ar (List.length ah) a2)).setCell ⟨w.heap.size+1,1,none⟩ (.int .i64 (D:Nat))).setCell ⟨w.heap.size+1,2,none⟩ (.int .i64 (s:Nat))).setCell ⟨w.heap.size+1,3,none⟩ (.int .i64 Mx)=W9 at*;have a':i1<=T:=a3.u.2;have AN:dm (Vu s zs pr D k cf 12 (Vz ls ds b) (T,cr) ah/\i<=T):=⟨a3.u.1,by have:=H.u;have:=N.u;omega⟩;have ay:T<=8*Z:=by rw [<-av.u];exact a3.u.1.le
       have MU:dm (Qb2 Z T cr<Qb2 Z y 0):=Qfn (fun _=>by have:=N.u;omega) (fun _=>ay);rw [a9.u] at MU;clear a' a3 bs;exact p7
   ·have b8:(c1 != 0)=true:=by simp [m]
    have aj:dm (Vu s zs pr D k cf 8 (fun c=>c.last=b) (i1,c1) al/\i<=i1):=⟨(a7.u m).2.off m,by have:=H.u;have:=bk.u;omega⟩;clear m a7 p;refine dL ?_;intro b0 b1 b2 C t0 t1 t2 t3 V u x2 t y0 F y2 y3 P l;clear C t0 t1 t2 t3 V u x2 t y0 F y2 y3 P l;go_upto_region 7 with fail;clear b0 b1 b2;refine dL ?_;intro b0 b1 b2 C t0 t1 t2 t3 V u x2 t y0 F y2 y3 P l;refine er ?_;intro aE aD aC aK aO aB aF;clear C t P l;refine iD ?_;intro DN;clear S;go_region
    go_wp2_with fail;have U:=DN.u _ (.inl rfl);unfold wT wR at U;obtain ⟨⟨k0,k1,k2,k3,k4,k5,k6⟩,P1,P2⟩:=U;exact bodyPost_ret (v:=.tuple #[.agg #[.slice ao Z cap,.int .i64 ((i1:Nat):Int),.int .i64 c1],.agg #[.slice aa (List.length al) ca,.int .i64 (D:Nat),.int .i64 (s:Nat),.int .i64 Mx]]) kF rfl d8
  ·have az:(c' == 0)=false:=dX
   have aj:dm (Vu s zs pr D k cf 8 (fun c=>c.last=b) (y,c') al/\i<=y):=⟨A.u.1.off I,A.u.2⟩;clear I A;refine dL ?_;intro b0 b1 b2 C t0 t1 t2 t3 V u x2 t y0 F y2 y3 P l;clear C t0 t1 t2 t3 V u x2 t y0 F y2 y3 P l;go_upto_region 13 with fail;clear b0 b1 b2;refine dL ?_;intro b0 b1 b2 C t0 t1 t2 t3 V u x2 t y0 F y2 y3 P l;refine er ?_;intro aE aD aC aK aO aB aF;clear C t P l;refine iD ?_;intro DN;clear S;go_region
   go_wp2_with fail;have U:=DN.u _ (.inl rfl);unfold wT wR at U;obtain ⟨⟨k0,k1,k2,k3,k4,k5,k6⟩,P1,P2⟩:=U;exact bodyPost_ret (v:=.tuple #[.agg #[.slice ao Z cap,.int .i64 ((y:Nat):Int),.int .i64 c'],.agg #[.slice aa (List.length al) ca,.int .i64 (D:Nat),.int .i64 (s:Nat),.int .i64 Mx]]) kF rfl d8
end
theorem p9{P:Prop}(h:P:=by
 refine dL ?_;intro b0 b1 b2 C t0 t1 t2 t3 V u x2 t y0 F y2 y3 P l;clear C t0 t1 t2 t3 V u x2 t y0 F y2 y3 P l;go_upto_region 14 with fail;clear b0 b1 b2;refine dL ?_;intro b0 b1 b2 C t0 t1 t2 t3 V u x2 t y0 F y2 y3 P l;refine er ?_;intro aE aD aC aK aO aB aF;clear C t P l;refine iD ?_;intro DN;clear S;go_region
 go_wp2_with fail;have U:=DN.u _ (.inl rfl);unfold wT wR at U;obtain ⟨⟨k0,k1,k2,k3,k4,k5,k6⟩,P1,P2⟩:=U;exact bodyPost_ret (v:=.tuple #[.agg #[.slice ao Z cap,.int .i64 ((y:Nat):Int),.int .i64 c'],.agg #[.slice aa (List.length al) ca,.int .i64 (D:Nat),.int .i64 (s:Nat),.int .i64 Mx]]) (by simp [results,results80,go_sem,k0,k1,k2,k3,k4,k5,k6]) rfl d8):P:=h
theorem Qaf(zs:List Int)(r:RR)(n:Nat):r.1<=(tk zs r n).1.1:=by
 unfold tk;split
 ·split
  ·dsimp only;omega
  ·exact ez
 ·exact ez
theorem Qhu(ao:Option Addr)(Z cap:Nat)(zs:List Int)(hZ:zs.length=Z)(i:Nat)(a:Option Addr)(c:Nat)(all:List Int)(D s:Nat)(Mx:Int)(pr:List Int)(hMx:dm (Mx=100000-(pr.length:Int)))(b:Bool)(k:Int)(cf:IC)(B:Nat)(w:World)(hr:Q1 w ao zs)(hrb:∀ad,ao=some ad->ad.block<B)(hz:Qh zs)(hzl:zs.length<=65536)(ho:Qi 5 B w a c all)(hB:B<=w.heap.size)(hs:s<=32768)(hDs:D<=32768)(hA:Vu s zs pr D k cf 9 (fun c=>c.last=b) ((i+7)/8*8,0) all):
  Calls prog 80 #[.agg #[.slice ao Z cap,.int .i64 (i:Nat),.int .i64 0],.agg #[.slice a all.length c,.int .i64 (D:Nat),.int .i64 (s:Nat),.int .i64 Mx]] w fun e w'=>V8 (.slice ao Z cap) (D:Nat) (s:Nat) Mx B a (fun r' all'=>Vu s zs pr D k cf 8 (fun c=>c.last=b) r' all'/\i<=r'.1) e w w':=by
 refine p8 ?_;intro an E;have aw:dm (∀W i n cl,w.grownBy W (Qt a)->i<=8*Z->n<=32->Calls prog 48 #[.agg #[.slice ao Z cap,.int .i64 (i:Nat),.int .i64 cl],.int .i64 (n:Nat)] W fun e w'=>e=.returned (.tuple #[.agg #[.slice ao Z cap,.int .i64 ((tk zs (i,cl) n).1.1:Nat),.int .i64 (tk zs (i,cl) n).1.2],.int .i64 ((tk zs (i,cl) n).2:Nat)])/\Below W.heap.size W w'):=fun W i n cl hW hi M=>by subst hZ;exact VN ao cap zs i n cl W (E.u W hW) hz hzl hi M
 have aT:dm (∀W i cl a c all g x,Qi 5 B W a c all->B<=W.heap.size->Q1 W (some ⟨g,0,none⟩) [x]->D<=all.length->all.length<=200000->Calls prog 118 #[.agg #[.slice ao Z cap,.int .i64 (i:Nat),.int .i64 cl],.agg #[.slice a all.length c,.int .i64 (D:Nat),.int .i64 (s:Nat),.int .i64 Mx],.slice (some ⟨g,0,none⟩) 1 1] W fun e w'=>V8 (.slice ao Z cap) (D:Nat) (s:Nat) Mx B a (fun r' all'=>(r',all')=tlP pr D (i,cl) all [x]) e W w'):=fun W i cl a c all g x h1 h2 h3 h5 h6=>Qdm ao Z cap i cl a c all D s Mx pr hMx (some ⟨g,0,none⟩) 1 [x] B W h1 h2 h3 (fun e=>dx) h5 h6 dr
 obtain ⟨q,hq⟩:=dt ((i+7)/8);rw [hq] at hA;obtain ⟨p,N⟩:=dt (q*8);rw [N] at hA;have z:p<=8*Z:=iy;have aq:i<=p:=dk;have f:((i:Int)+7).tdiv 8=(q:Int):=pS;have aS:(q:Int)*8=(p:Int):=dk;have ab:q<=70000:=dk;have aU:i<=600000:=dk;obtain ⟨i1,c1,n,e1⟩:=dH (tk zs (p,0) 16);obtain ⟨i2,c2,m,e2⟩:=dH (tk zs (i1,c1) 16);obtain ⟨i3,c3,R⟩:=dI (VJ (i2,c2) (decide ((m:Int)≠65535-(n:Int))));obtain ⟨M,hm,aZ,Q⟩:=Ql7 hzl hA e1 e2 R;have aG:i1<=8*Z:=by have:=Qda (zs:=zs) (r:=(p,0)) (n:=16) (by dsimp only;omega);rw [e1] at this;dsimp only at this;omega
 have L:p<=i1:=by have:=Qaf zs (p,0) 16;rw [e1] at this;exact this
 have a0:i1<=i2:=by have:=Qaf zs (i1,c1) 16;rw [e2] at this;exact this
 have K:i3=i2:=by have:=Qcu (i2,c2) (decide ((m:Int)≠65535-(n:Int)));rw [R] at this;exact this
 have aI:i<=i3:=dk;have aV:i3<=8*Z:=dk;rw [<-Qlr] at R;have E1:=Qe e1;have E2:=Qe e2;have o:=Qe R;have A3:dm (Vu s zs pr D k cf 10 (fun c=>c.last=b/\c.stored=n) (i3,c3) all/\i<=i3):=⟨Q,aI⟩;have bm:=Qe hDs;have S:=Qe<|Qfi w a B (.slice ao Z cap) (i:Nat) 0 c all (D:Nat) (s:Nat) Mx 85 91 ho
 have av:=Qe hZ;have aQ:=Qe hzl;have Hz:=Qe hz;have aW:=Qe hB;clear hr hrb ho hA hZ hzl hz hDs an E hB hq N e1 e2 R Q L a0 K aZ aI;go_enter func80,ntmps80;go_upto_region 4 with fail;rw [Qi3];generalize w4 w (.slice ao Z cap) (i:Nat) 0 (.slice a all.length c) (D:Nat) (s:Nat) Mx 85 91=W at*;have SP:=Qe<|S.u.plc ((p:Nat):Int)
 refine dG ?_;intro b0 b1 b2 C t0 t1 t2 t3 V u x2 t y0 F y2 y3 P l;have G:=C 1;clear C t0 t1 t2 t3 V u x2 t y0 F y2 y3 P l;go_upto_region 6 with fail;clear b0 b1 b2 G S;generalize W.setCell ⟨w.heap.size,1,none⟩ (.int .i64 ((p:Nat):Int))=X at*;have S:=SP;clear SP;refine dG ?_;intro b0 b1 b2 C t0 t1 t2 t3 V u x2 t y0 F y2 y3 P l;clear C t0 t1 t2 t3 V u x2 t y0 F y2 y3 P l;go_wp2_with fail;clear b0 b1 b2;refine Calls.mono (aw.u _ p 16 0 S.u.gr z dk) ?_;rintro e w1 ⟨rfl,hb⟩;rw [E1.u];dsimp only;have O:=Qe<|S.u.below hb
 clear hb S;refine iC ?_;intro S;unfold wR at S;refine dO ?_;intro b0 b1 b2 C t0 t1 t2 t3 V u x2 t y0 F y2 y3 P l;refine dA ?_;intro ag G ae;clear C t0 t1 t2 t3 V u x2 t y0 F y2 y3 P l;go_upto_region 7 with fail;clear b0 b1 b2 ag G ae O;generalize ((w1.setCell ⟨w.heap.size,0,none⟩ (.slice ao Z cap)).setCell ⟨w.heap.size,1,none⟩ (.int .i64 ((i1:Nat):Int))).setCell ⟨w.heap.size,2,none⟩ (.int .i64 c1)=W at*;refine dG ?_;intro b0 b1 b2 C t0 t1 t2 t3 V u x2 t y0 F y2 y3 P l;clear C t0 t1 t2 t3 V u x2 t y0 F y2 y3 P l;go_wp2_with fail;clear b0 b1 b2;refine Calls.mono (aw.u _ i1 16 c1 S.u.gr aG dk) ?_;rintro e w1 ⟨rfl,hb⟩;rw [E2.u];dsimp only;have O:=Qe<|S.u.below hb
 clear hb S;have S:=Qe<|O.u.setR (.slice ao Z cap) ((i2:Nat):Int) c2
 unfold wR at S;refine dO ?_;intro b0 b1 b2 C t0 t1 t2 t3 V u x2 t y0 F y2 y3 P l;refine dA ?_;intro ag G ae;clear C t0 t1 t2 t3 V u x2 t y0 F y2 y3 P l;go_upto_region 8 with fail;clear b0 b1 b2 ag G ae O;generalize ((w1.setCell ⟨w.heap.size,0,none⟩ (.slice ao Z cap)).setCell ⟨w.heap.size,1,none⟩ (.int .i64 ((i2:Nat):Int))).setCell ⟨w.heap.size,2,none⟩ (.int .i64 c2)=W at*;refine dG ?_;intro b0 b1 b2 C t0 t1 t2 t3 V u x2 t y0 F y2 y3 P l;clear C t0 t1 t2 t3 V u x2 t y0 F y2 y3 P l;go_wp2_with fail;clear b0 b1 b2;refine Calls.mono (Q0 ao Z cap i2 c2 ((m:Int) != 65535-(n:Int)) _) ?_;rintro e w1 ⟨rfl,hb⟩;rw [o.u];dsimp only;have O:=Qe<|S.u.below hb
 clear hb S;have S:=Qe<|O.u.setR (.slice ao Z cap) ((i3:Nat):Int) c3
 unfold wR at S;refine dO ?_;intro b0 b1 b2 C t0 t1 t2 t3 V u x2 t y0 F y2 y3 P l;refine dA ?_;intro ag G ae;clear C t0 t1 t2 t3 V u x2 t y0 F y2 y3 P l;go_upto_region 10 with fail;clear b0 b1 b2 ag G ae O;generalize ((w1.setCell ⟨w.heap.size,0,none⟩ (.slice ao Z cap)).setCell ⟨w.heap.size,1,none⟩ (.int .i64 ((i3:Nat):Int))).setCell ⟨w.heap.size,2,none⟩ (.int .i64 c3)=W at*;clear E1 E2 o;go_loopw [8,9] (fun _ kk wr=>∃(j y:Nat) (c':Int) (aa:Option Addr) (ca:Nat) (al:List Int),j<=n/\kk=.int .i64 (j:Nat)/\y<=8*Z/\dm (SI w a B wr (.slice ao Z cap) ((y:Nat):Int) c' aa ca al (D:Nat) (s:Nat) Mx)/\dm (Vu s zs pr D k cf 10 (fun c=>c.last=b/\c.stored=n-j) (y,c') al/\i<=y)) (fun _ kk _=>n-(intOf kk).toNat)
 case atStart=>exact ⟨0,i3,c3,a,c,all,Nat.zero_le _,rfl,aV,S,A3⟩
 case round=>
  clear S A3 aV aG z aq f aS ab aU;obtain ⟨j,y,c',aa,ca,al,hj,rfl,a8,S,A⟩:=hrel;by_cases b7:j<n
  ·by_cases I:c'=0
   ·subst I
    obtain ⟨m',ak⟩:∃m',n-j=m'+1:=⟨n-j-1,dk⟩;obtain ⟨i1,c1,x,e1⟩:=dH (tk zs (y,0) 8);have hA:=A.u.1;rw [ak] at hA;have bb:dm (∀i2 c2 all',tlP pr D (i1,c1) al [(x:Int)]=((i2,c2),all')->Vu s zs pr D k cf 10 (fun c=>c.last=b/\c.stored=n-(j+1)) (i2,c2) all'):=fun i2 c2 all' e=>by
     have h:=(Qlg Hz.u aQ.u hA e1 e).2.2;rw [show n-(j+1)=m' by omega];exact h
    have hx:x<=255:=by
     obtain ⟨i9,c9,ax,e9⟩:∃(xi:Nat) (xc:Int) (xA:List Int),tlP pr D (i1,c1) al [(x:Int)]=((xi,xc),xA):=⟨_,_,_,rfl⟩;exact (Qlg Hz.u aQ.u hA e1 e9).1
    have aG:i1<=8*Z:=by have:=Qda (zs:=zs) (r:=(y,0)) (n:=8) (by dsimp only;rw [av.u];exact a8);rw [e1,av.u] at this;exact this
    have L:y<=i1:=by have:=Qaf zs (y,0) 8;rw [e1] at this;exact this
    have H:dm (i<=i1):=Nat.le_trans A.u.2 L;have au:=Qe hA.len;have E1:=Qe e1;have aR:IntKind.u8.wrap (x:Int)=(x:Int):=dV;clear e1 hA A ak L;refine dG ?_;intro b0 b1 b2 C t0 t1 t2 t3 V u x2 t y0 F y2 y3 P l;clear C t0 t1 t2 t3 V u x2 t y0 F y2 y3 P l;go_upto_region 12 with fail;clear b0 b1 b2;refine dG ?_;intro b0 b1 b2 C t0 t1 t2 t3 V u x2 t y0 F y2 y3 P l;clear C t0 t1 t2 t3 V u x2 t y0 F y2 y3 P l;go_wp2_with fail;clear b0 b1 b2;refine Calls.mono (aw.u _ y 8 0 S.u.gr a8 dk) ?_;rintro e w1 ⟨rfl,hb⟩;rw [E1.u];dsimp only;have O:=Qe<|S.u.below hb
    clear hb S;refine iC ?_;intro S;unfold wR at S;refine dO ?_;intro b0 b1 b2 C t0 t1 t2 t3 V u x2 t y0 F y2 y3 P l;refine dA ?_;intro ag G ae;clear C t0 t1 t2 t3 V u x2 t y0 F y2 y3 P l;go_upto_region 13 with fail;clear b0 b1 b2 ag G ae O;generalize ((w1.setCell ⟨w.heap.size,0,none⟩ (.slice ao Z cap)).setCell ⟨w.heap.size,1,none⟩ (.int .i64 ((i1:Nat):Int))).setCell ⟨w.heap.size,2,none⟩ (.int .i64 c1)=W at*;have bj:=Qe<|Qfb W (x:Int) 5
    have d:B<=(W.alloc (.cells #[.int .u8 (x:Int)] 5)).heap.size:=p6;refine dG ?_;intro b0 b1 b2 C t0 t1 t2 t3 V u x2 t y0 F y2 y3 P l;clear C V u x2 t y0 F y2 y3 P l;have ba:Below W.heap.size W (W.alloc (.cells #[.int .u8 (x:Int)] 5)):=(Below.refl _ _).alloc (Nat.le_refl _) _;have J:=Qe<|S.u.below ba
    clear ba;go_wp2_with fail;clear b0 b1 b2 t0 t1 t2 t3;refine Calls.mono (aT.u _ i1 c1 aa ca al _ (x:Int) J.u.own d bj.u au.u.1 (by have:=au.u;have:=bm.u;omega)) ?_;rintro e w3 ⟨T,cr,ar,a2,ah,rfl,ai,Y,af,a6⟩;have S3:=Qe<|J.u.told ai Y af (.slice ao Z cap) ((T:Nat):Int) cr
    have SG:=Qe<|J.u.sm.grown Y (fun k e=>J.u.u k e)
    have a3:=Qe a6;clear ai Y af a6 S;clear J;unfold wT wR at S3;obtain ⟨⟨b0,b1,b2,C⟩,t0,t1,t2,t3,⟨_,_,_,_⟩,_,_,_,_,P,_⟩:=SG.u;refine dA ?_;intro ag G ae;refine eE ?_;intro aH aN aM aP;clear C P;go_wp2_with fail;clear b0 b1 b2 t0 t1 t2 t3 ag G ae aH aN aM aP SG;generalize ((((((w3.setCell ⟨w.heap.size,0,none⟩ (.slice ao Z cap)).setCell ⟨w.heap.size,1,none⟩ (.int .i64 ((T:Nat):Int))).setCell ⟨w.heap.size,2,none⟩ (.int .i64 cr)).setCell ⟨w.heap.size+1,0,none⟩ (.slice ar (List.length ah) a2)).setCell ⟨w.heap.size+1,1,none⟩ (.int .i64 (D:Nat))).setCell ⟨w.heap.size+1,2,none⟩ (.int .i64 (s:Nat))).setCell ⟨w.heap.size+1,3,none⟩ (.int .i64 Mx)=W9 at*;have a':T=i1:=by have:=QkQ pr D (i1,c1) al [(x:Int)];rw [<-a3.u] at this;exact this
    have AN:dm (Vu s zs pr D k cf 10 (fun c=>c.last=b/\c.stored=n-(j+1)) (T,cr) ah/\i<=T):=⟨bb.u T cr ah a3.u.symm,by have:=H.u;omega⟩;have ay:T<=8*Z:=dk;exact ⟨⟨j+1,T,cr,ar,a2,ah,dk,dw,ay,S3,AN⟩,dM⟩
   ·have az:(c' == 0)=false:=dX
    have aj:dm (Vu s zs pr D k cf 8 (fun c=>c.last=b) (y,c') al/\i<=y):=⟨A.u.1.off I,A.u.2⟩;clear I A;exact p9
  ·have aj:dm (Vu s zs pr D k cf 8 (fun c=>c.last=b) (y,c') al/\i<=y):=by
    have hA:=A.u.1;rw [show n-j=0 by omega] at hA;exact ⟨QnD aQ.u hA,A.u.2⟩
   clear A;exact p9
end Go.Proofs.YtgginbpmebgkcaaGreatDoor
