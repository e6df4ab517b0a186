import Derived.Test.YtgginbpmebgkcaaGreatDoorMAZ
namespace Go.Proofs.YtgginbpmebgkcaaGreatDoor
open Go.RowKit Go.Proofs.Tryz
attribute [local go_sem ↓] Go.wp_at_zero Go.wp_at_succ
set_option linter.unusedVariables false
set_option maxRecDepth 100000
set_option maxHeartbeats 25600000
section
theorem pW{P:Prop}(h:P:=by
 have bd:(c5 != 0)=true:=by simp [A]
 have HF:dm (Vu s zs pr D k cf 12 (Vz ls ds b) (i5,c5) all/\i<=i5):=by
  have J:=an.u;unfold tlP at J;rw [if_neg A] at J;injection J with J h2;injection J with J h3;subst J;subst h2;subst h3;exact A4.u
 clear A;refine dL ?_;intro b0 b1 b2 C t0 t1 t2 t3 V u x2 t y0 F y2 y3 P l;clear C t0 t1 t2 t3 V u x2 t y0 F y2 y3 P l;go_upto_region 15 with fail;clear b0 b1 b2;refine dL ?_;intro b0 b1 b2 C t0 t1 t2 t3 V u x2 t y0 F y2 y3 P l;refine er ?_;intro aE aD aC aK aO aB aF;clear C t P l;have DN:=Qe (fun W hW=>S.u.post (Rel:=fun r' all'=>Vu s zs pr D k cf 12 (Vz ls ds b) r' all'/\i<=r'.1) HF.u W hW);clear S;go_region
 go_wp2_with fail;have U:=DN.u _ (.inl rfl);unfold wT wR at U;obtain ⟨⟨k0,k1,k2,k3,k4,k5,k6⟩,P1,P2⟩:=U;exact bodyPost_ret (v:=.tuple #[.agg #[.slice ao Z cap,.int .i64 ((i5:Nat):Int),.int .i64 c5],.agg #[.slice a (List.length all) c,.int .i64 (D:Nat),.int .i64 (s:Nat),.int .i64 Mx]]) kD rfl d8):P:=h
theorem pU{P:Prop}(h:P:=by have a4:=Qe hQ;have A:c5≠0:=Qhd hQ;clear hQ;refine dG ?_;intro b0 b1 b2 C t0 t1 t2 t3 V u x2 t y0 F y2 y3 P l;clear C V u x2 t y0 F y2 y3 P l;go_wp2_with fail;clear b0 b1 b2 t0 t1 t2 t3;refine Calls.mono (Q0 ao Z cap i4 c4 true _) ?_;rintro e w1 ⟨rfl,hb⟩;rw [a4.u];dsimp only;refine fp ?_;intro O K;clear hb S L;refine pV ?_;intro S L;unfold wR at S L;refine dO ?_;intro b0 b1 b2 C t0 t1 t2 t3 V u x2 t y0 F y2 y3 P l;refine dA ?_;intro ag G ae;clear C t0 t1 t2 t3 V u x2 t y0 F y2 y3 P l;go_upto_region 14 with fail;clear b0 b1 b2 ag G ae O K;generalize ((w1.setCell ⟨w.heap.size,0,none⟩ (.slice ao Z cap)).setCell ⟨w.heap.size,1,none⟩ (.int .i64 ((i5:Nat):Int))).setCell ⟨w.heap.size,2,none⟩ (.int .i64 c5)=W at*;exact pW):P:=h
variable{B i' c:Nat}{w wr w':World}{a0 a:Option Addr}{v:Value}{i cl D s Mx:Int}{all:List Int}
theorem Qoq(all:List Int)(dist:Nat)(m n:Nat)(h:m<n):(QM all dist n).getD (all.length+m) 0=(QM all dist m).getD (all.length+m-dist) 0:=by
 induction n with
 | zero=>omega
 | succ n ih=>
  rw [QM];have hl:=VV all dist n;by_cases e:m=n
  ·subst e
   rw [List.getD_eq_getElem?_getD,List.getElem?_append_right dk,hl,Nat.sub_self];rfl
  ·have:=ih dk
   rw [<-this,List.getD_eq_getElem?_getD,List.getElem?_append_left dk,<-List.getD_eq_getElem?_getD]
theorem QlP(all:List Int)(dist n j:Nat)(h:j<all.length):(QM all dist n).getD j 0=all.getD j 0:=by
 induction n with
 | zero=>rfl
 | succ n ih=>
  have hl:=VV all dist n;rw [QM,List.getD_eq_getElem?_getD,List.getElem?_append_left dk,<-List.getD_eq_getElem?_getD,ih]
theorem QlC(all:List Int)(dist:Nat)(h1:1<=dist)(h2:dist<=all.length):∀n:Nat,(QM all dist n).getD ((QM all dist n).length-dist) 0=all.getD (all.length-dist+n%dist) 0:=by
 intro n;induction n using Nat.strongRecOn with
 | _ n ih=>
  rw [VV];by_cases M:n<dist
  ·rw [QlP _ _ _ _ dk,Nat.mod_eq_of_lt M]
   congr 1;omega
  ·have h3:=Qoq all dist (n-dist) n dk
   have h4:=ih (n-dist) dk;rw [VV] at h4;rw [show all.length+n-dist=all.length+(n-dist) from dk,h3,h4,<-Nat.mod_eq_sub_mod (show n>=dist by omega)]
theorem Qfb(w:World)(x:Int)(t:TypeId):Q1 (w.alloc (.cells #[.int .u8 x] t)) (some ⟨w.heap.size,0,none⟩) [x]:=by
 refine Q1.of fun i hi=>?_
 have h:i=0:=by simp at hi;omega
 subst h;simp [go_sem]
theorem QmU(zs:List Int)(r:RR)(n:Nat):(tk zs r n).2<2^n:=by
 unfold tk;split
 ·split
  ·exact Q4 _ _ _
  ·exact Nat.two_pow_pos _
 ·exact Nat.two_pow_pos _
theorem Qhd{i:Nat}{c c':Int}(h:VJ (i,c) true=(i',c')):c'≠0:=by
 unfold VJ at h;split at h
 ·injection h with _ h
  omega
 ·rename_i M
  injection h with _ h;subst h;intro e;exact M ⟨e,rfl⟩
theorem Qqq(W:World)(base e g:Nat)(hb:base<=W.heap.size)(hg:W.heap.size=g):(W.alloc (.cells #[] e)).ownsRow base e 1 (.slice (some ⟨g,0,none⟩) 0 0) 0 []:=kC
theorem Qi.bare{e:Nat}{ao:Option Addr}{cap:Nat}{zs:List Int}(h:Qi e B w ao cap zs):ao=none->zs.length=0/\cap=0:=by
 intro e;rcases h.2 with ⟨J,_⟩|⟨g',K,M,J,_⟩
 ·simp only [Value.slice.injEq] at J
  exact ⟨J.2.1,J.2.2⟩
 ·exact km
theorem SI.farther{row:Option Nat}(h:SI w a0 B wr v i cl a c all D s Mx)(hg:wr.grownBy w' row)(hr:∀k,row=some k->w.heap.size+4<=k)(hne:∀k,row=some k->Qt a≠some k):SI w a0 B w' v i cl a c all D s Mx:=
 ⟨h.sm.grown hg (fun k e=>.inr (hr k e)),h.own.grown hg hne,Qp h.gr hg (fun g e=>.inr (by have:=hr g e;omega)),h.far,h.low⟩
theorem SI.relay{Rel:RR->List Int->Prop}(h:SI w a0 B wr v i cl a c all D s Mx){cl':Int}{a':Option Addr}{c':Nat}{all':List Int}(ho:Qi 5 B w' a' c' all')(hg:wr.grownBy w' (Qt a))(hf:∀g,Qt a'=some g->Qt a=some g\/wr.heap.size<=g)(hrel:Rel (i',cl') all'):
  ((wT (wR w' (w.heap.size+2) v (i':Nat) cl') (w.heap.size+3) (.slice a' all'.length c') D s Mx).cell? ⟨w.heap.size+2,0,none⟩=some v/\(wT (wR w' (w.heap.size+2) v (i':Nat) cl') (w.heap.size+3) (.slice a' all'.length c') D s Mx).cell? ⟨w.heap.size+2,1,none⟩=some (.int .i64 (i':Nat))/\(wT (wR w' (w.heap.size+2) v (i':Nat) cl') (w.heap.size+3) (.slice a' all'.length c') D s Mx).cell? ⟨w.heap.size+2,2,none⟩=some (.int .i64 cl')/\(wT (wR w' (w.heap.size+2) v (i':Nat) cl') (w.heap.size+3) (.slice a' all'.length c') D s Mx).cell? ⟨w.heap.size+3,0,none⟩=some (.slice a' all'.length c')/\(wT (wR w' (w.heap.size+2) v (i':Nat) cl') (w.heap.size+3) (.slice a' all'.length c') D s Mx).cell? ⟨w.heap.size+3,1,none⟩=some (.int .i64 D)/\(wT (wR w' (w.heap.size+2) v (i':Nat) cl') (w.heap.size+3) (.slice a' all'.length c') D s Mx).cell? ⟨w.heap.size+3,2,none⟩=some (.int .i64 s)/\(wT (wR w' (w.heap.size+2) v (i':Nat) cl') (w.heap.size+3) (.slice a' all'.length c') D s Mx).cell? ⟨w.heap.size+3,3,none⟩=some (.int .i64 Mx))/\
  V8 v D s Mx B a0 Rel (.returned (.tuple #[.agg #[v,.int .i64 (i':Nat),.int .i64 cl'],.agg #[.slice a' all'.length c',.int .i64 D,.int .i64 s,.int .i64 Mx]])) w (wT (wR w' (w.heap.size+2) v (i':Nat) cl') (w.heap.size+3) (.slice a' all'.length c') D s Mx):=by
 have hS:=h.told ho hg hf v (i':Nat) cl'
 have j:=h.sm.grown hg (fun k e=>h.u k e);have f:∀g,Qt a'=some g->Qt a0=some g\/w.heap.size+4<=g:=hS.far;have aG:∀k,Qt a'=some k->k<w.heap.size\/w.heap.size+4<=k:=hS.u;have Y:w.grownBy w' (Qt a0):=Qp h.gr hg (fun g e=>by
  rcases h.far g e with J|J
  ·exact .inl J
  ·exact .inr dk)
 have d:=j.lt;have hx:=j.x.set v (i':Nat) cl'
 have g1:=QD w' (w.heap.size+2) v (i':Nat) cl'
 have g2:=Qac (wR w' (w.heap.size+2) v (i':Nat) cl') (w.heap.size+3) (.slice a' all'.length c') D s Mx;have r:(w.heap.size+2)<(wR w' (w.heap.size+2) v (i':Nat) cl').heap.size:=Nat.lt_of_lt_of_le dk g1.size;obtain ⟨k0,k1,k2,_⟩:=hx.1;have c3:∀o,(wR w' (w.heap.size+2) v (i':Nat) cl').cell? ⟨w.heap.size+3,o,none⟩=w'.cell? ⟨w.heap.size+3,o,none⟩:=fun o=>QK g1 dk dk o
 obtain ⟨b,a1,a2,q,_⟩:=QbI ((c3 0).trans j.y0) ((c3 1).trans j.y1) ((c3 2).trans j.y2) ((c3 3).trans j.y3) (.slice a' all'.length c') D s Mx;refine ⟨⟨(QK g2 r dk 0).trans k0,(QK g2 r dk 1).trans k1,(QK g2 r dk 2).trans k2,b,a1,a2,q⟩,i',cl',a',c',all',rfl,?_,?_,fun g e=>?_,hrel⟩
 ·exact (ho.grown g1 (fun k e e2=>iv)).grown g2 (fun k e e2=>iv)
 ·exact Qp (Qp Y g1 (fun g e=>ej)) g2 (fun g e=>ej)
 ·rcases f g e with J|J
  ·exact .inl J
  ·exact .inr dk
theorem Qk0(ao:Option Addr)(Z cap:Nat)(zs:List Int)(hZ:zs.length=Z)(i:Nat)(a:Option Addr)(c:Nat)(all:List Int)(D s S:Nat)(Mx:Int)(pr:List Int)(hMx:dm (Mx=100000-(pr.length:Int)))(ls ds:List Int)(b:Bool)(k:Int)(cf:IC)(co:Option Addr)(nc cc:Nat)(B:Nat)(w:World)(hr:Q1 w ao zs)(hz:Qh zs)(hzl:zs.length<=65536)(ho:Qi 5 B w a c all)(hB:B<=w.heap.size)(hS0:256<S)(hS1:S<=285)(hs:s<=32768)(hDs:D<=32768)(hcd:okC ds=true/\nc=ds.length/\Qba w co ds.length (code ds))(hA:Vu s zs pr D k cf 13 (fun c=>Vz ls ds b c/\c.base=(VF S).1/\c.extra=(VF S).2) (i,0) all):
  Calls prog 123 #[.agg #[.slice ao Z cap,.int .i64 (i:Nat),.int .i64 0],.agg #[.slice a all.length c,.int .i64 (D:Nat),.int .i64 (s:Nat),.int .i64 Mx],.int .i64 (S:Nat),.slice co nc cc] w fun e w'=>V8 (.slice ao Z cap) (D:Nat) (s:Nat) Mx B a (fun r' all'=>Vu s zs pr D k cf 12 (Vz ls ds b) r' all'/\i<=r'.1) e w w':=by
 obtain ⟨u0,hu,bn,bm,b6⟩:=info_parts Tryz.info_u8s;have aw:dm (∀W i n cl,Below w.heap.size w W->i<=8*Z->n<=32->Calls prog 48 #[.agg #[.slice ao Z cap,.int .i64 (i:Nat),.int .i64 cl],.int .i64 (n:Nat)] W fun e w'=>e=.returned (.tuple #[.agg #[.slice ao Z cap,.int .i64 ((tk zs (i,cl) n).1.1:Nat),.int .i64 (tk zs (i,cl) n).1.2],.int .i64 ((tk zs (i,cl) n).2:Nat)])/\Below W.heap.size W w'):=fun W i n cl hW hi M=>by subst hZ;exact VN ao cap zs i n cl W (hr.below hW) hz hzl hi M
 have aq:dm (∀W i cl,Below w.heap.size w W->i<=8*Z->Calls prog 120 #[.agg #[.slice ao Z cap,.int .i64 (i:Nat),.int .i64 cl],.slice co nc cc] W fun e w'=>e=.returned (.tuple #[.agg #[.slice ao Z cap,.int .i64 ((sy zs (i,cl) ds).1.1:Nat),.int .i64 (sy zs (i,cl) ds).1.2],.int .i64 ((sy zs (i,cl) ds).2:Nat)])/\Below W.heap.size W w'):=fun W i cl hW hi=>by subst hZ;exact QdT ao cap zs i cl ds co nc cc W (hr.below hW) hz hzl hi (fun _=>⟨hcd.1,hcd.2.1,Qba.belowL hcd.2.2 hW⟩)
 have aT:dm (∀W i a c all da dc data,Qi 5 B W a c all->B<=W.heap.size->Q1 W da data->(da=none->data.length=0/\dc=0)->D<=all.length->all.length<=200000->data.length<=1000->Calls prog 118 #[.agg #[.slice ao Z cap,.int .i64 (i:Nat),.int .i64 0],.agg #[.slice a all.length c,.int .i64 (D:Nat),.int .i64 (s:Nat),.int .i64 Mx],.slice da data.length dc] W fun e w'=>V8 (.slice ao Z cap) (D:Nat) (s:Nat) Mx B a (fun r' all'=>(r',all')=tlP pr D (i,0) all data) e W w'):=fun W i a c all da dc data J h2 h3 h4 h5 h6 h7=>Qdm ao Z cap i 0 a c all D s Mx pr hMx da dc data B W J h2 h3 h4 h5 h6 h7
 have au:=Qe (fun W=>Qhw S dk hS1 W);have a8:=QhC S dk hS1;obtain ⟨N0,a2⟩:=dt ((VF S).1);obtain ⟨E0,a3⟩:=dt ((VF S).2);rw [a2,a3] at a8 hA au;have aU:i<=8*Z:=iy;have aL:=hA.len;have HD:=Qe hDs;refine pT ?_;intro S L HZ;have av:=Qe hZ;have aQ:=Qe hzl;obtain ⟨i1,c1,x,hT⟩:=dH (tk zs (i,0) E0);obtain ⟨bC,r⟩:=QpB hzl (fun c c' J h2 h3 h=>⟨J.trans h.1,h2.trans h.2.1,h3.trans h.2.2⟩) hA hT;have hx:x<2^E0:=by
  have:=QmU zs (i,0) E0;exact fo
 have a5:2^E0<=32:=Nat.pow_le_pow_right (n:=2) dn a8.2.2;obtain ⟨n,M⟩:=dt (N0+x);have bL:3<=n/\n<=258:=dk;rw [M] at r;have aG:i1<=8*Z:=by have:=r.le;dsimp only at this;omega
 obtain ⟨i2,c2,d,hY⟩:=dH (sy zs (i1,c1) ds);obtain ⟨i3,c3,hQ⟩:=dI (VJ (i2,c2) (decide ((d:Int) > 29)));obtain ⟨bI,bE,bx,bh,aX⟩:=Qng hzl r hY hQ;have aV:i3<=8*Z:=dk;have aI:i<=i3:=dk;clear bx;have A2:=Qe aX;have ay:=Qe hT;have bl:=Qe hY;have a4:=Qe hQ;have bj:=Qe bh;have bO:(N0:Int)+(x:Int)=(n:Int):=dk;clear hr hz ho hcd hA r aX hT hY hQ bh hZ hzl hx a5 a2 a3 hDs;go_enter func123,ntmps123;go_upto_region 3 with fail;rw [Qi3];generalize w4 w (.slice ao Z cap) (i:Nat) 0 (.slice a all.length c) (D:Nat) (s:Nat) Mx 85 91=W at*;go_wp2_with fail;refine Calls.mono (au.u _) ?_;rintro e w0 ⟨rfl,rfl⟩;go_upto_region 4 with fail;refine dG ?_;intro b0 b1 b2 C t0 t1 t2 t3 V u x2 t y0 F y2 y3 P l;clear C t0 t1 t2 t3 V u x2 t y0 F y2 y3 P l;go_wp2_with fail;clear b0 b1 b2;refine Calls.mono (aw.u _ i E0 0 L.u aU dk) ?_;rintro e w1 ⟨rfl,hb⟩;rw [ay.u];dsimp only;refine fp ?_;intro O K;clear hb S L;have S:=Qe<|O.u.setR (.slice ao Z cap) ((i1:Nat):Int) c1
 have L:=Qe<|K.u.grown (QD _ w.heap.size (.slice ao Z cap) ((i1:Nat):Int) c1) fX dz
 unfold wR at S L;refine dO ?_;intro b0 b1 b2 C t0 t1 t2 t3 V u x2 t y0 F y2 y3 P l;refine dA ?_;intro ag G ae;clear C t0 t1 t2 t3 V u x2 t y0 F y2 y3 P l;go_upto_region 5 with fail;clear b0 b1 b2 ag G ae O K;generalize ((w1.setCell ⟨w.heap.size,0,none⟩ (.slice ao Z cap)).setCell ⟨w.heap.size,1,none⟩ (.int .i64 ((i1:Nat):Int))).setCell ⟨w.heap.size,2,none⟩ (.int .i64 c1)=W at*;go_upto_region 6 with fail;refine dG ?_;intro b0 b1 b2 C t0 t1 t2 t3 V u x2 t y0 F y2 y3 P l;clear C t0 t1 t2 t3 V u x2 t y0 F y2 y3 P l;go_wp2_with fail;clear b0 b1 b2;refine Calls.mono (aq.u _ i1 c1 L.u aG) ?_;rintro e w1 ⟨rfl,hb⟩;rw [bl.u];dsimp only;refine fp ?_;intro O K;clear hb S L;have S:=Qe<|O.u.setR (.slice ao Z cap) ((i2:Nat):Int) c2
 have L:=Qe<|K.u.grown (QD _ w.heap.size (.slice ao Z cap) ((i2:Nat):Int) c2) fX dz
 unfold wR at S L;refine dO ?_;intro b0 b1 b2 C t0 t1 t2 t3 V u x2 t y0 F y2 y3 P l;refine dA ?_;intro ag G ae;clear C t0 t1 t2 t3 V u x2 t y0 F y2 y3 P l;go_upto_region 7 with fail;clear b0 b1 b2 ag G ae O K;generalize ((w1.setCell ⟨w.heap.size,0,none⟩ (.slice ao Z cap)).setCell ⟨w.heap.size,1,none⟩ (.int .i64 ((i2:Nat):Int))).setCell ⟨w.heap.size,2,none⟩ (.int .i64 c2)=W at*;refine dG ?_;intro b0 b1 b2 C t0 t1 t2 t3 V u x2 t y0 F y2 y3 P l;clear C t0 t1 t2 t3 V u x2 t y0 F y2 y3 P l;go_wp2_with fail;clear b0 b1 b2;refine Calls.mono (Q0 ao Z cap i2 c2 (decide ((d:Int) > 29)) _) ?_;rintro e w1 ⟨rfl,hb⟩;rw [a4.u];dsimp only;refine fp ?_;intro O K;clear hb S L;have S:=Qe<|O.u.setR (.slice ao Z cap) ((i3:Nat):Int) c3
 have L:=Qe<|K.u.grown (QD _ w.heap.size (.slice ao Z cap) ((i3:Nat):Int) c3) fX dz
 unfold wR at S L;refine dO ?_;intro b0 b1 b2 C t0 t1 t2 t3 V u x2 t y0 F y2 y3 P l;refine dA ?_;intro ag G ae;clear C t0 t1 t2 t3 V u x2 t y0 F y2 y3 P l;go_upto_region 8 with fail;clear b0 b1 b2 ag G ae O K;generalize ((w1.setCell ⟨w.heap.size,0,none⟩ (.slice ao Z cap)).setCell ⟨w.heap.size,1,none⟩ (.int .i64 ((i3:Nat):Int))).setCell ⟨w.heap.size,2,none⟩ (.int .i64 c3)=W at*;by_cases ax:c3=0
 ·subst ax
  have hd:=bj.u rfl;have b5:=Qe (fun W=>QjV d hd W);have a7:=Qil d hd;have A3:=A2;obtain ⟨N1,ak⟩:=dt ((Qae d).1);obtain ⟨E1,aj⟩:=dt ((Qae d).2);rw [ak,aj] at a7 A3 b5;obtain ⟨i4,c4,y,hT⟩:=dH (tk zs (i3,0) E1);have hy:y<2^E1:=by
   have:=QmU zs (i3,0) E1;exact fo
  obtain ⟨f,aR⟩:=dt (N1+y);have bK:(N1:Int)+(y:Int)=(f:Int):=dk;have aY:1<=f/\f<=32768:=dk;obtain ⟨i5,c5,hQ⟩:=dI (VJ (i4,c4) (decide (all.length<N1+y\/s<N1+y)));obtain ⟨i6,c6,bc,aZ⟩:∃(xi:Nat) (xc:Int) (xA:List Int),tlP pr D (i5,c5) all (VG all (N1+y) n)=((xi,xc),xA):=⟨_,_,_,rfl⟩;obtain ⟨bH,bb,bp,aN,br,bz⟩:=QoZ aQ.u A3.u hT hQ aZ;rw [aR] at hQ aZ aN;have A4:dm (Vu s zs pr D k cf 12 (Vz ls ds b) (i6,c6) bc/\i<=i6):=⟨bz,dk⟩;clear bp br;have ay:=Qe hT;have an:=Qe aZ;have bG:=Qe aN;have bu:=Qe hQ;clear hQ bz hT aZ aN ak aj aR hy A2 A3 bj;refine dG ?_;intro b0 b1 b2 C t0 t1 t2 t3 V u x2 t y0 F y2 y3 P l;have zz:=S.u.sm.lt;clear C t0 t1 t2 t3 V u x2 t y0 F y2 y3 P l;go_wp2_with fail;refine Calls.mono (b5.u _) ?_;rintro e w0 ⟨rfl,rfl⟩;go_upto_region 11 with fail;clear b0 b1 b2 zz;refine dG ?_;intro b0 b1 b2 C t0 t1 t2 t3 V u x2 t y0 F y2 y3 P l;clear C t0 t1 t2 t3 V u x2 t y0 F y2 y3 P l;go_wp2_with fail;clear b0 b1 b2;refine Calls.mono (aw.u _ i3 E1 0 L.u aV dk) ?_;rintro e w1 ⟨rfl,hb⟩;rw [ay.u];dsimp only;refine fp ?_;intro O K;clear hb S L;have S:=Qe<|O.u.setR (.slice ao Z cap) ((i4:Nat):Int) c4
  have L:=Qe<|K.u.grown (QD _ w.heap.size (.slice ao Z cap) ((i4:Nat):Int) c4) fX dz
  unfold wR at S L;refine dO ?_;intro b0 b1 b2 C t0 t1 t2 t3 V u x2 t y0 F y2 y3 P l;refine dA ?_;intro ag G ae;clear C t0 t1 t2 t3 V u x2 t y0 F y2 y3 P l;go_upto_region 12 with fail;clear b0 b1 b2 ag G ae O K;generalize ((w1.setCell ⟨w.heap.size,0,none⟩ (.slice ao Z cap)).setCell ⟨w.heap.size,1,none⟩ (.int .i64 ((i4:Nat):Int))).setCell ⟨w.heap.size,2,none⟩ (.int .i64 c4)=W at*;go_upto_region 13 with fail;have hQ:=bu.u;clear bu;by_cases g1:all.length<f
  ·rw [decide_eq_true (show all.length<f\/s<f from .inl g1)] at hQ
   exact pU
  ·by_cases g2:s<f
   ·rw [decide_eq_true (show all.length<f\/s<f from .inr g2)] at hQ
    exact pU
   ·rw [decide_eq_false (show ¬(all.length<f\/s<f) by omega)] at hQ
    have a4:=Qe hQ;have bD:f<=all.length:=dk;clear hQ;refine dG ?_;intro b0 b1 b2 C t0 t1 t2 t3 V u x2 t y0 F y2 y3 P l;clear C V u x2 t y0 F y2 y3 P l;go_wp2_with fail;clear b0 b1 b2 t0 t1 t2 t3;refine Calls.mono (Q0 ao Z cap i4 c4 false _) ?_;rintro e w1 ⟨rfl,hb⟩;rw [a4.u];dsimp only;refine fp ?_;intro O K;clear hb S L;refine pV ?_;intro S L;unfold wR at S L;refine dO ?_;intro b0 b1 b2 C t0 t1 t2 t3 V u x2 t y0 F y2 y3 P l;refine dA ?_;intro ag G ae;clear C t0 t1 t2 t3 V u x2 t y0 F y2 y3 P l;go_upto_region 14 with fail;clear b0 b1 b2 ag G ae O K;generalize ((w1.setCell ⟨w.heap.size,0,none⟩ (.slice ao Z cap)).setCell ⟨w.heap.size,1,none⟩ (.int .i64 ((i5:Nat):Int))).setCell ⟨w.heap.size,2,none⟩ (.int .i64 c5)=W at*;by_cases A:c5=0
    ·subst A
     obtain ⟨ga,oa,bB⟩:∃g o,a=some ⟨g,o,none⟩:=by
      obtain ⟨g,o,e,_⟩:=S.u.own.mine.row 0 dk;exact ⟨g,o,e⟩
     subst bB;have bM:ga<w.heap.size:=by
      rcases S.u.far ga rfl with h|h
      ·exact S.u.low ga h
      ·have:=S.u.low ga rfl
       exact this
     refine dL ?_;intro b0 b1 b2 C t0 t1 t2 t3 V u x2 t y0 F y2 y3 P l;clear C V u x2 t y0 F y2 y3 P l;go_upto_region 17 with fail;clear b0 b1 b2 t0 t1 t2 t3;have O0:=Qe<|Qqq W (w.heap.size+4) 5 W.heap.size (by have:=S.u.sm.lt;omega) rfl
     have SX:=Qe<|S.u.below ((Below.refl W.heap.size W).alloc (Nat.le_refl _) (.cells #[] 5))
     generalize W.alloc (.cells #[] 5)=W7 at*;obtain ⟨g7,I⟩:=dt W.heap.size;rw [I] at O0 ⊢;clear S L I;go_wp2_with fail;go_loopw [16,17,18] (fun v q _ wr=>∃(j:Nat) (ad:Option Addr) (cd:Nat) (X:List Int),j<=n/\q=.int .i64 (j:Nat)/\v=.slice ad X.length cd/\dm (X=VG all f j)/\dm (X.length=j)/\X.length<=258/\dm (Qi 5 (w.heap.size+4) wr ad cd X)/\dm (SI w (some ⟨ga,oa,none⟩) B wr (.slice ao Z cap) ((i5:Nat):Int) 0 (some ⟨ga,oa,none⟩) c all (D:Nat) (s:Nat) Mx)) (fun _ q _ _=>n-(intOf q).toNat)
     case atStart=>exact ⟨0,some ⟨g7,0,none⟩,0,[],Nat.zero_le _,rfl,rfl,(by show _=_;simp [VG,QM]),rfl,Nat.zero_le _,O0.u,SX.u⟩
     case round=>
      clear O0 SX;obtain ⟨j,ad,cd,X,hj,rfl,rfl,HX,bo,hX,HO,HS⟩:=hrel;by_cases b7:j<n
      ·obtain ⟨m,hm⟩:=dt (j%f)
       have bF:m<f:=by rw [<-hm];exact Nat.mod_lt _ dk
       have bN:(j:Int).tmod (f:Int)=(m:Int):=by rw [Int.tmod_eq_emod_of_nonneg dk,<-hm];rfl
       obtain ⟨pp,b3⟩:=dt (all.length-f+m);have aS:(all.length:Int)-(f:Int)+(m:Int)=(pp:Int):=dk;have aH:pp<all.length:=dk;have HW:dm (wrap64 (wrap64 ((all.length:Int)-(f:Int))+(m:Int))=(pp:Int)):=by
        show _=_;have hd:=HD.u;rw [show wrap64 ((all.length:Int)-(f:Int))=(all.length:Int)-(f:Int) by unfold wrap64;omega,aS];unfold wrap64;omega
       clear aS;obtain ⟨xb,aM⟩:=dt (all.getD pp 0);have a1:dm (X++[xb]=VG all f (j+1)):=by
        show _=_;rw [Qde,QlC all f aY.1 bD,hm,b3,aM,HX.u]
       have aW:=Qe aM;have t0:=HS.u.sm.t0;clear hm b3 aM;go_upto_region 20 with fail;go_quiet (fail);rw [HW.u];have bk:=Qe<|HO.u.below (Qo _ wr nq)
       have aP:=Qe<|HS.u.below (Qo _ wr nq)
       clear t0 HO HS;generalize wr.drewN nq=wq at*;have z:wq.cell? ⟨ga,oa+pp,none⟩=some (.int .u8 (all.getD pp 0)):=by
        obtain ⟨g,o,e,aJ⟩:=aP.u.own.mine.row pp aH;cases e
        exact aJ
       rw [aW.u] at z;have a0:=aP.u.sm.lt;have t0:=aP.u.sm.t0;have ba:Below wq.heap.size wq (wq.alloc (.cells #[.int .u8 xb] 5)):=(Below.refl _ _).alloc (Nat.le_refl _) _;have ah:=Qe<|bk.u.below ba
       have bs:=Qe<|aP.u.below ba
       have aA:=Qe<|Qfb wq xb 5
       have bA:(wq.alloc (.cells #[.int .u8 xb] 5)).heap.size=wq.heap.size+1:=dr;have E:=Qe<|Qi.based bk.u
       clear ba bk aP aW HW;go_wp2_with (at_builtin;refine Qm _ rfl _ _ 22 rfl (w.heap.size+4) 5 u0 (.int .u8 0) 1 underlying22 hu bn bm b6 rfl (.slice ad X.length cd) X.length (X.map (Value.int .u8)) rfl ah.u (some ⟨wq.heap.size,0,none⟩) 1 [xb] rfl aA.u (fun e=>dx) dK du dk ?_)
       intro v' w2 R Q aa;rw [show List.map (Value.int .u8) X++[Value.int .u8 xb]=(X++[xb]).map (Value.int .u8) by simp] at R;obtain ⟨a',c',e',al⟩:=Qi.of R;subst e'
       have H:(Value.slice ad X.length cd).ownBlock=Qt ad:=by cases ad<;>rfl
       rw [H] at Q;have S2:=Qe<|bs.u.farther Q (fun k e=>E.u k e) (fun k e e2=>by have:=E.u k e;simp [Qt] at e2;omega)
       have O2:=Qe al;have a9:(X++[xb]).length=j+1:=by rw [List.length_append,bo.u];rfl
       have bw:=Qe a9;have ab:(X++[xb]).length<=258:=dk;generalize X++[xb]=X2 at*;clear R Q aa H al ah bs aA E HX bo t0 z bA a9;go_wp2_with fail;exact ⟨⟨j+1,a',c',X2,dk,dw,rfl,a1,bw,ab,O2,S2⟩,dM⟩
      ·have bt:j=n:=dk
       subst bt;have bq:=Qe<|aT.u wr i5 (some ⟨ga,oa,none⟩) c all ad cd X HS.u.own (by have:=HS.u.sm.lt;omega) HO.u.mine.row HO.u.bare aL.1 (by have:=HD.u;omega) dk
       have b9:dm (tlP pr D (i5,0) all X=((i6,c6),bc)):=by show _=_;rw [HX.u];exact an.u
       obtain ⟨⟨b0,b1,b2,C⟩,t0,t1,t2,t3,⟨V,u,x2,t⟩,y0,F,y2,y3,P,l⟩:=HS.u.sm;clear C V u x2 t y0 F y2 y3 P l HX an HO;go_wp2_with fail;refine Calls.mono bq.u ?_;rintro e w3 ⟨T,cr,ar,b8,b4,rfl,ai,Y,af,a6⟩;have SG:=Qe<|HS.u.sm.grown Y (fun k e=>HS.u.u k e)
       rw [b9.u] at a6;injection a6 with J h2;injection J with J h3;subst J;subst h2;subst h3;have az:=Qe<|HS.u.relay (Rel:=fun r' all'=>Vu s zs pr D k cf 12 (Vz ls ds b) r' all'/\i<=r'.1) ai Y af A4.u
       clear b0 b1 b2 t0 t1 t2 t3 ai Y af bq HS;obtain ⟨_,_,_,_,_,⟨V,u,x2,t⟩,y0,F,y2,y3,P,l⟩:=SG.u;refine iw ?_;intro aE aD aC aK aO aB aF;clear t P l SG;unfold wT wR at az;go_wp2_with fail;obtain ⟨⟨k0,k1,k2,k3,k4,k5,k6⟩,P1⟩:=az.u;exact bodyPost_ret (v:=.tuple #[.agg #[.slice ao Z cap,.int .i64 ((T:Nat):Int),.int .i64 cr],.agg #[.slice ar (List.length b4) b8,.int .i64 (D:Nat),.int .i64 (s:Nat),.int .i64 Mx]]) kD rfl P1
    ·exact pW
 ·have bJ:(c3 != 0)=true:=by simp [ax]
  have HF:dm (Vu s zs pr D k cf 12 (Vz ls ds b) (i3,c3) all/\i<=i3):=⟨A2.u.off ax,aI⟩;clear ax;refine dL ?_;intro b0 b1 b2 C t0 t1 t2 t3 V u x2 t y0 F y2 y3 P l;clear C t0 t1 t2 t3 V u x2 t y0 F y2 y3 P l;go_upto_region 9 with fail;clear b0 b1 b2;refine dL ?_;intro b0 b1 b2 C t0 t1 t2 t3 V u x2 t y0 F y2 y3 P l;refine er ?_;intro aE aD aC aK aO aB aF;clear C t P l;have DN:=Qe (fun W hW=>S.u.post (Rel:=fun r' all'=>Vu s zs pr D k cf 12 (Vz ls ds b) r' all'/\i<=r'.1) HF.u W hW);clear S;go_region
  go_wp2_with fail;have U:=DN.u _ (.inl rfl);unfold wT wR at U;obtain ⟨⟨k0,k1,k2,k3,k4,k5,k6⟩,P1,P2⟩:=U;exact bodyPost_ret (v:=.tuple #[.agg #[.slice ao Z cap,.int .i64 ((i3:Nat):Int),.int .i64 c3],.agg #[.slice a (List.length all) c,.int .i64 (D:Nat),.int .i64 (s:Nat),.int .i64 Mx]]) kD rfl d8
end
end Go.Proofs.YtgginbpmebgkcaaGreatDoor
