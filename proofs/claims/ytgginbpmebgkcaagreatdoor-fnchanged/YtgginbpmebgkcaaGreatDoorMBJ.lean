import Derived.Test.YtgginbpmebgkcaaGreatDoorMAR
import Derived.Test.YtgginbpmebgkcaaGreatDoorMAS
import Derived.Test.YtgginbpmebgkcaaGreatDoorMBC
import Derived.Test.YtgginbpmebgkcaaGreatDoorMBD
import Derived.Test.YtgginbpmebgkcaaGreatDoorMBI
namespace Go.Proofs.YtgginbpmebgkcaaGreatDoor
open Go.RowKit Go.Proofs.Tryz
attribute [local go_sem ↓] Go.wp_at_zero Go.wp_at_succ
set_option linter.unusedVariables false
set_option maxRecDepth 100000
set_option maxHeartbeats 25600000
def hiN(zs:List Int):Nat->RR->Nat->RR×Nat
 | 0,r,x=>(r,x)
 | n+1,r,x=>hiN zs n (tk zs r 8).1 (256*x+(tk zs r 8).2)
theorem Qar{zs:List Int}{r:RR}{n:Nat}(h:r.1<=8*zs.length):(tk zs r n).1.1<=8*zs.length:=by
 unfold tk;split
 ·split
  ·assumption
  ·exact h
 ·exact h
theorem QhL(zs:List Int)(r:RR):(tk zs r 8).2<256:=by
 unfold tk;split
 ·split
  ·exact Q4 _ _ 8
  ·exact Nat.zero_lt_succ _
 ·exact Nat.zero_lt_succ _
theorem QjZ(ao:Option Addr)(cap:Nat)(zs:List Int)(i n:Nat)(cl:Int)(w:World)(hr:Q1 w ao zs)(hz:Qh zs)(hzl:zs.length<=65536)(hi:i<=8*zs.length)(hn:n<=4):
  Calls prog 39 #[.agg #[.slice ao zs.length cap,.int .i64 (i:Nat),.int .i64 cl],.int .i64 (n:Nat)] w fun e w'=>
   e=.returned (.tuple #[.agg #[.slice ao zs.length cap,.int .i64 ((hiN zs n (i,cl) 0).1.1:Nat),.int .i64 (hiN zs n (i,cl) 0).1.2],.int .i64 ((hiN zs n (i,cl) 0).2:Nat)])/\Below w.heap.size w w':=by
 have aw:dm (∀W (r:RR),Below w.heap.size w W->r.1<=8*zs.length->Calls prog 48 #[.agg #[.slice ao zs.length cap,.int .i64 (r.1:Nat),.int .i64 r.2],.int .i64 8] W fun e w'=>e=.returned (.tuple #[.agg #[.slice ao zs.length cap,.int .i64 ((tk zs r 8).1.1:Nat),.int .i64 (tk zs r 8).1.2],.int .i64 ((tk zs r 8).2:Nat)])/\Below W.heap.size W w'):=fun W r hW hr1=>VN ao cap zs r.1 8 r.2 W (hr.below hW) hz hzl hr1 dn
 obtain ⟨t,ht⟩:=dt (hiN zs n (i,cl) 0);rw [ht];have HT:=Qe ht;have P:=Qe hi;clear hr hz ht hi;generalize hZ:zs.length=Z at*;have HZ:=Qe hZ;clear hZ;have B1:dm (L5m ((w.alloc (.cells #[.slice ao Z cap,.int .i64 (i:Nat),.int .i64 cl] 85)).alloc (.cells #[.slice none 0 0,.int .i64 0,.int .i64 0] 85)) w.heap.size (.slice ao Z cap) (i:Nat) cl):=(VI w (.slice ao Z cap) (i:Nat) cl 85).below ((Below.refl _ _).alloc (Nat.le_refl _) _);have R1:dm (L5m ((w.alloc (.cells #[.slice ao Z cap,.int .i64 (i:Nat),.int .i64 cl] 85)).alloc (.cells #[.slice none 0 0,.int .i64 0,.int .i64 0] 85)) (w.heap.size+1) (.slice none 0 0) 0 0):=by
  have h:=VI (w.alloc (.cells #[.slice ao Z cap,.int .i64 (i:Nat),.int .i64 cl] 85)) (.slice none 0 0) 0 0 85;exact jN
 have L1:dm (Below w.heap.size w ((w.alloc (.cells #[.slice ao Z cap,.int .i64 (i:Nat),.int .i64 cl] 85)).alloc (.cells #[.slice none 0 0,.int .i64 0,.int .i64 0] 85))):=((Below.refl _ _).alloc (Nat.le_refl _) _).alloc dr _;go_enter func39,ntmps39;go_wp2_with fail;generalize (w.alloc (.cells #[.slice ao Z cap,.int .i64 (i:Nat),.int .i64 cl] 85)).alloc (.cells #[.slice none 0 0,.int .i64 0,.int .i64 0] 85)=W0 at*;go_loopw [6,7,8] (fun vx vk _ wr=>∃(k x T:Nat) (cr:Int),k<=n/\vx=.int .i64 (x:Nat)/\vk=.int .i64 (k:Nat)/\dm (x<256^k)/\dm (hiN zs (n-k) (T,cr) x=t)/\dm (T<=8*Z)/\dm (L5m wr w.heap.size (.slice ao Z cap) (T:Nat) cr)/\dm (L5m wr (w.heap.size+1) (.slice none 0 0) 0 0)/\dm (Below w.heap.size w wr)) (fun _ vk _ _=>n-(intOf vk).toNat)
 case atStart=>exact ⟨0,0,i,cl,Nat.zero_le _,rfl,rfl,(show (0:Nat)<256^0 by decide),HT,P,B1,R1,L1⟩
 case round=>
  clear B1 R1 L1 HT P;obtain ⟨k,x,T,cr,hk,rfl,rfl,HX,b,P,HB,HR,HL⟩:=hrel;by_cases ab:k<n
  ·have a:x<16777216:=Nat.lt_of_lt_of_le HX.u (show 256^k<=256^3 from Nat.pow_le_pow_right dn dk)
   have TK:=Qe<|aw.u wr (T,cr) HL.u P.u
   have hb:=QhL zs (T,cr);have a0:dm ((tk zs (T,cr) 8).1.1<=8*Z):=ou;have l:dm (hiN zs (n-(k+1)) ((tk zs (T,cr) 8).1.1,(tk zs (T,cr) 8).1.2) (256*x+(tk zs (T,cr) 8).2)=t):=ov;obtain ⟨b0,b1,b2,C⟩:=HB.u;clear C;dsimp only at TK;generalize (tk zs (T,cr) 8).1.1=i2 at*;generalize (tk zs (T,cr) 8).1.2=c2 at*;generalize (tk zs (T,cr) 8).2=y at*;have a1:dm (256*x+y<256^(k+1)):=by have J:=HX.u;show _<_;rw [Nat.pow_succ];omega
   clear HX b P;go_wp2_with fail;refine Calls.mono TK.u ?_;rintro e w1 ⟨rfl,aj⟩;have B2:=Qe<|HB.u.below aj
   have R2:=Qe<|HR.u.below aj
   have s:w.heap.size<=wr.heap.size:=HL.u.size;have L2:=Qe<|HL.u.trans (aj.mono s)
   clear aj TK HB HR HL b0 b1 b2;have E:=Qe<|B2.u.set (.slice ao Z cap) (i2:Nat) c2
   have R3:=Qe<|R2.u.grown E.u.2 dr
   have D:=Qe<|L2.u.grown E.u.2 jO dz
   obtain ⟨b0,b1,b2,C⟩:=B2.u;refine dA ?_;intro ag G ae;clear C;go_wp2_with fail;go_roundw
   case rel=>exact ⟨k+1,256*x+y,i2,c2,dk,dw,dw,a1,l,a0,E.u.1,R3,D⟩
   case measure=>simp [intOf];omega
  ·have e:k=n:=dk
   subst e;have ht:t=((T,cr),x):=by have J:=b.u;rw [Nat.sub_self] at J;exact J.symm
   have d:=Qe ht;obtain ⟨b0,b1,b2,_⟩:=HB.u;refine jP ?_;intro E D r0 r1 r2 rf aE aC aD;clear rf ht HX b;go_wp2_with fail;obtain ⟨⟨y0,F,y2,_⟩,_⟩:=E.u;exact bodyPost_ret (v:=.tuple #[.agg #[.slice ao Z cap,.int .i64 (T:Nat),.int .i64 cr],.int .i64 (x:Nat)]) (by simp [results,results39,go_sem,y0,F,y2]) rfl ⟨by rw [d.u],D.u⟩
def alP(r:RR):RR:=if r.2=0 then ((r.1+7)/8*8,0) else r
theorem Qdb(ao:Option Addr)(Z cap i:Nat)(cl:Int)(w:World)(hi:i<=1000000):
  Calls prog 45 #[.agg #[.slice ao Z cap,.int .i64 (i:Nat),.int .i64 cl]] w fun e w'=>e=.returned (.agg #[.slice ao Z cap,.int .i64 ((alP (i,cl)).1:Nat),.int .i64 (alP (i,cl)).2])/\Below w.heap.size w w':=by
 by_cases I:cl=0
 ·subst I
  have ht:alP (i,0)=((i+7)/8*8,0):=jQ;rw [ht];obtain ⟨q,hq⟩:=dt ((i+7)/8);have a:((i:Int)+7).tdiv 8=(q:Int):=by rw [Int.tdiv_eq_ediv_of_nonneg dk,<-hq];omega
  have d:q<=1000000:=dk;rw [hq];clear hq ht;go_enter func45,ntmps45;go_wp2_with fail;exact bodyPost_ret (v:=.agg #[.slice ao Z cap,.int .i64 ((q*8:Nat):Int),.int .i64 0]) ow rfl ⟨rfl,((Below.refl _ _).alloc (Nat.le_refl _) _).alloc dr _⟩
 ·have hb:(cl == 0)=false:=dX
  have ht:alP (i,cl)=(i,cl):=by unfold alP;rw [if_neg I]
  rw [ht];clear I ht;go_enter func45,ntmps45;go_wp2_with fail;exact bodyPost_ret (v:=.agg #[.slice ao Z cap,.int .i64 (i:Nat),.int .i64 cl]) ow rfl ⟨rfl,((Below.refl _ _).alloc (Nat.le_refl _) _).alloc dr _⟩
def suP(r:RR)(b:Bool):RR:=if r.2=0/\b=true then (r.1,4) else r
theorem QcD(ao:Option Addr)(Z cap i:Nat)(cl:Int)(b:Bool)(w:World):
  Calls prog 46 #[.agg #[.slice ao Z cap,.int .i64 (i:Nat),.int .i64 cl],.bool b] w fun e w'=>e=.returned (.agg #[.slice ao Z cap,.int .i64 ((suP (i,cl) b).1:Nat),.int .i64 (suP (i,cl) b).2])/\Below w.heap.size w w':=by
 by_cases I:cl=0
 ·subst I
  cases b with
  | true=>
   have ht:suP (i,0) true=(i,4):=by unfold suP;rw [if_pos ⟨rfl,rfl⟩]
   rw [ht];go_enter func46,ntmps46;go_wp2_with fail;exact bodyPost_ret (v:=.agg #[.slice ao Z cap,.int .i64 (i:Nat),.int .i64 4]) jR rfl ⟨rfl,((Below.refl _ _).alloc (Nat.le_refl _) _).alloc dr _⟩
  | false=>
   have ht:suP (i,0) false=(i,0):=by unfold suP;rw [if_neg (fun h=>by cases h.2)]
   rw [ht];go_enter func46,ntmps46;go_wp2_with fail;exact bodyPost_ret (v:=.agg #[.slice ao Z cap,.int .i64 (i:Nat),.int .i64 0]) jR rfl ⟨rfl,((Below.refl _ _).alloc (Nat.le_refl _) _).alloc dr _⟩
 ·have hb:(cl == 0)=false:=dX
  have ht:suP (i,cl) b=(i,cl):=by unfold suP;rw [if_neg (fun h=>I h.1)]
  rw [ht];clear I ht;go_enter func46,ntmps46;go_wp2_with fail;exact bodyPost_ret (v:=.agg #[.slice ao Z cap,.int .i64 (i:Nat),.int .i64 cl]) jR rfl ⟨rfl,((Below.refl _ _).alloc (Nat.le_refl _) _).alloc dr _⟩
section
theorem qb{P:Prop}(h:P:=by have MU:dm (bMu Z T cr L1<bMu Z y 0 0):=Qfk (fun _=>by have:=q.u;omega) (fun _=>ay);rw [a9.u] at MU;clear a3 aX;exact qa):P:=h
theorem qa{P:Prop}(h:P:=by
 go_roundg (bMu Z T cr L1)
 case measure=>exact MU.u
 case rel=>exact ⟨L1,T,cr,ar,a2,ah,rfl,au,rfl,ay,S3,AN⟩):P:=h
variable{zs:List Int}{c c':LC}{i i1:Nat}{c0:Int}
theorem Qp5{v:Int}{t:Nat}(hs:addS c v t=.inl c'):c'.i=c.i:=by
 unfold addS at hs;repeat' (split at hs)
 all_goals first|(cases hs;done)|(injection hs with e;subst e;rfl)
theorem Qmk(hs:Qx zs c=.inl c'):c.i<=c'.i:=by
 unfold Qx at hs;repeat' (split at hs)
 all_goals (try unfold QS at hs)
 all_goals (try unfold QF at hs)
 all_goals (try unfold QE at hs)
 all_goals (try unfold QX at hs)
 all_goals (try unfold Vq at hs)
 all_goals (try unfold Vs at hs)
 all_goals repeat' (split at hs)
 all_goals first|(cases hs;done)|(injection hs with e;subst e;dsimp only;omega)|(have:=Qp5 hs;dsimp only at this;omega)
theorem Vy.mono_i{cf:LC}{k:Int}(h:Vy zs c k cf)(hk:k=1):c.i<=cf.i:=by
 obtain ⟨n,M⟩:=h;induction n generalizing c with
 | zero=>exact M.elim
 | succ n ih=>
  rcases M with ⟨J,_,e⟩|⟨J,E⟩|⟨J,c',E,h3⟩
  ·rw [e]
   exact ez
  ·exact gR
  ·exact Nat.le_trans (Qmk E) (ih h3)
theorem QpS{n x:Nat}(h:tk zs (i,c0) n=((i1,0),x)):c0=0/\i1=i+n:=by
 unfold tk at h;split at h
 ·rename_i I
  split at h
  ·injection h with h _
   injection h with h _;exact ⟨I,h.symm⟩
  ·injection h with h _
   injection h with _ h;exact absurd h dn
 ·rename_i I
  injection h with h _;injection h with _ h;exact absurd h I
theorem Qrg{p:Bool}(h:VJ (i,c0) p=(i1,0)):c0=0/\i1=i:=by
 unfold VJ at h;split at h
 ·injection h with _ h
  exact absurd h dn
 ·injection h with h1 h2
  exact ⟨h2,h1.symm⟩
theorem Qv.grownR{w w':World}{row:Option Nat}{ao:Option Addr}(h:Qv w ao zs)(hg:w.grownBy w' row)(hne:∀g,Qt ao=some g->some g≠row):Qv w' ao zs:=by
 intro i hi;obtain ⟨b,U,e,I⟩:=h i hi;subst e;exact ⟨b,U,rfl,(World.cell?_of_block (w:=w) (a:=⟨b,U+i,none⟩) (hg.block b (World.block_lt_of_cell? w _ I) (hne b rfl))).trans I⟩
theorem Qnu:okC F288=true:=by decide+kernel
theorem QqJ:okC F32=true:=by decide+kernel
theorem QoU:F32.length=32:=by decide
def bst(L:Nat):Nat:=if L=1 then 16 else 7
theorem QoE:bst 1=16:=rfl
theorem Qhv(L:Nat):(if decide (L=1)=true then 16 else 7)=bst L:=by
 unfold bst;by_cases h:L=1<;>simp [h]
def bMu(Z i:Nat)(c:Int)(L:Nat):Nat:=if c=0/\L=0 then 1+(8*Z-i) else 0
theorem Qfk{Z i' L:Nat}{c':Int}(h:c'=0->i<i')(hi:c'=0->i'<=8*Z):bMu Z i' c' L<bMu Z i 0 0:=by
 have K:bMu Z i 0 0=1+(8*Z-i):=if_pos ⟨rfl,rfl⟩;rw [K];unfold bMu;split
 ·rename_i e
  have:=h e.1;have:=hi e.1;omega
 ·omega
theorem QdD(ao:Option Addr)(Z cap:Nat)(zs:List Int)(hZ:zs.length=Z)(i:Nat)(cl:Int)(a:Option Addr)(c:Nat)(all:List Int)(D s:Nat)(Mx:Int)(pr:List Int)(hMx:dm (Mx=100000-(pr.length:Int)))(k:Int)(cf:IC)(B:Nat)(w:World)(hr:Q1 w ao zs)(hrb:∀ad,ao=some ad->ad.block<B)(hz:Qh zs)(hzl:zs.length<=65536)(ho:Qi 5 B w a c all)(hB:B<=w.heap.size)(hs:s<=32768)(hDs:D<=32768)(hA:Vu s zs pr D k cf 7 (fun _=>True) (i,cl) all):
  Calls prog 43 #[.agg #[.slice ao Z cap,.int .i64 (i:Nat),.int .i64 cl],.agg #[.slice a all.length c,.int .i64 (D:Nat),.int .i64 (s:Nat),.int .i64 Mx]] w fun e w'=>V8 (.slice ao Z cap) (D:Nat) (s:Nat) Mx B a (fun r' all'=>Vu s zs pr D k cf 16 (fun _=>True) r' all') e w w':=by
 refine pZ ?_;intro an E;have aw:dm (∀W i n cl,w.grownBy W (Qt a)->i<=8*Z->n<=32->Calls prog 48 #[.agg #[.slice ao Z cap,.int .i64 (i:Nat),.int .i64 cl],.int .i64 (n:Nat)] W fun e w'=>e=.returned (.tuple #[.agg #[.slice ao Z cap,.int .i64 ((tk zs (i,cl) n).1.1:Nat),.int .i64 (tk zs (i,cl) n).1.2],.int .i64 ((tk zs (i,cl) n).2:Nat)])/\Below W.heap.size W w'):=fun W i n cl hW hi hn=>by subst hZ;exact VN ao cap zs i n cl W (E.u W hW) hz hzl hi hn
 have ak:dm (∀W i a1 c all b,w.grownBy W (Qt a)->Qi 5 B W a1 c all->B<=W.heap.size->Vu s zs pr D k cf 9 (fun c=>c.last=b) ((i+7)/8*8,0) all->Calls prog 80 #[.agg #[.slice ao Z cap,.int .i64 (i:Nat),.int .i64 0],.agg #[.slice a1 all.length c,.int .i64 (D:Nat),.int .i64 (s:Nat),.int .i64 Mx]] W fun e w'=>V8 (.slice ao Z cap) (D:Nat) (s:Nat) Mx B a1 (fun r' all'=>Vu s zs pr D k cf 8 (fun c=>c.last=b) r' all'/\i<=r'.1) e W w'):=fun W i a1 c all b hW J h2 h3=>Qhu ao Z cap zs hZ i a1 c all D s Mx pr hMx b k cf B W (E.u W hW) hrb hz hzl J h2 hs hDs h3
 have bk:dm (∀W i a1 c all b ls ds lo lc eo ec,w.grownBy W (Qt a)->Qi 5 B W a1 c all->B<=W.heap.size->Qv W lo ls->Qv W eo ds->okC ls=true/\okC ds=true/\ls.length<=320/\ds.length<=320->Vu s zs pr D k cf 12 (Vz ls ds b) (i,0) all->Calls prog 82 #[.agg #[.slice ao Z cap,.int .i64 (i:Nat),.int .i64 0],.agg #[.slice a1 all.length c,.int .i64 (D:Nat),.int .i64 (s:Nat),.int .i64 Mx],.slice lo ls.length lc,.slice eo ds.length ec] W fun e w'=>V8 (.slice ao Z cap) (D:Nat) (s:Nat) Mx B a1 (fun r' all'=>Vu s zs pr D k cf 8 (fun c=>c.last=b) r' all'/\i<=r'.1) e W w'):=fun W i a1 c all b ls ds lo lc eo ec hW J h2 h3 h4 h5 h6=>Qgq ao Z cap zs hZ i a1 c all D s Mx pr hMx ls ds b k cf lo lc eo ec B W (E.u W hW) hrb hz hzl J h2 hs hDs h3 h4 h5.1 h5.2.1 h5.2.2.1 h5.2.2.2 h6
 have aJ:dm (∀W i k2 m c0,w.grownBy W (Qt a)->i<=8*Z->c0.st=0->c0.i=i->Vy zs c0 k2 m->Calls prog 81 #[.agg #[.slice ao Z cap,.int .i64 (i:Nat),.int .i64 0]] W fun e w'=>Qf4 zs ao cap k2 m e W w'):=fun W i k2 m c0 hW hi H J h2=>by subst hZ;exact Qkt ao cap zs i k2 m c0 W (E.u W hW) hz hzl hi H J h2
 have aU:i<=8*Z:=iy;have S:=Qe<|Qfi w a B (.slice ao Z cap) (i:Nat) cl c all (D:Nat) (s:Nat) Mx 85 91 ho
 have L:=Qe<|QbQ w (.slice ao Z cap) (i:Nat) cl (.slice a all.length c) (D:Nat) (s:Nat) Mx 85 91
 have A0:dm (Vu s zs pr D k cf (bst 0) (fun _=>True) (i,cl) all):=hA;have av:=Qe hZ;have aQ:=Qe hzl;have aW:=Qe hB;clear hr hrb ho hA hZ hzl hz hDs hs an E hB;go_enter func43,ntmps43;go_upto_region 3 with fail;rw [Qi3];generalize w4 w (.slice ao Z cap) (i:Nat) cl (.slice a all.length c) (D:Nat) (s:Nat) Mx 85 91=W at*;clear L;go_loopg [6,7,8,9] (bMu Z i cl 0) (fun n x _ _ _ wr=>∃(L y:Nat) (c':Int) (aa:Option Addr) (ca:Nat) (al:List Int),x=.int .i64 (L:Nat)/\L<=1/\dm (bMu Z y c' L=n)/\y<=8*Z/\dm (SI w a B wr (.slice ao Z cap) ((y:Nat):Int) c' aa ca al (D:Nat) (s:Nat) Mx)/\dm (Vu s zs pr D k cf (bst L) (fun _=>True) (y,c') al))
 case atStart=>exact ⟨0,i,cl,a,c,all,rfl,Nat.zero_le _,rfl,aU,S,A0⟩
 case round=>
  clear S A0 aU;obtain ⟨L,y,c',aa,ca,al,rfl,hL,a9,a8,S,A⟩:=hrel;by_cases I:c'=0
  ·subst I
   by_cases bl:L=0
   ·subst bl
    obtain ⟨i1,c1,L1,e1⟩:=dH (tk zs (y,0) 1);obtain ⟨i2,c2,K,e2⟩:=dH (tk zs (i1,c1) 2);obtain ⟨i3,c3,R⟩:=dI (VJ (i2,c2) (decide (K=3)));obtain ⟨au,bE,aZ,a'⟩:=QoG aQ.u A.u e1 e2 R;have aG:i1<=8*Z:=by have:=Qda (zs:=zs) (r:=(y,0)) (n:=1) (by dsimp only;rw [av.u];exact a8);rw [e1,av.u] at this;exact this
    have aV:i3<=8*Z:=by rw [<-av.u];exact aZ
    have N:dm (c3=0->y<i3):=fun h=>by
     rw [h] at R;obtain ⟨g1,g2⟩:=Qrg R;rw [g1] at e2;obtain ⟨g3,g4⟩:=QpS e2;rw [g3] at e1;have:=(QpS e1).2;omega
    have aR:((K:Int) == 3)=decide (K=3):=by
     by_cases h:K=3
     ·subst h;rfl
     ·rw [decide_eq_false h];simp;omega
    rw [<-aR] at R;have E1:=Qe e1;have E2:=Qe e2;have o:=Qe R;have ba:=Qe a'
    clear e1 e2 R a' aR A aZ;refine dG ?_;intro b0 b1 b2 C t0 t1 t2 t3 V u x2 t y0 F y2 y3 P l;clear C t0 t1 t2 t3 V u x2 t y0 F y2 y3 P l;go_upto_region 4 with fail;clear b0 b1 b2;refine dG ?_;intro b0 b1 b2 C t0 t1 t2 t3 V u x2 t y0 F y2 y3 P l;clear C t0 t1 t2 t3 V u x2 t y0 F y2 y3 P l;go_wp2_with fail;clear b0 b1 b2;refine Calls.mono (aw.u _ y 1 0 S.u.gr a8 dk) ?_;rintro e w1 ⟨rfl,hb⟩;rw [E1.u];dsimp only;have O:=Qe<|S.u.below hb
    clear hb S;refine iC ?_;intro S;unfold wR at S;refine dO ?_;intro b0 b1 b2 C t0 t1 t2 t3 V u x2 t y0 F y2 y3 P l;refine dA ?_;intro ag G ae;clear C t0 t1 t2 t3 V u x2 t y0 F y2 y3 P l;go_upto_region 5 with fail;clear b0 b1 b2 ag G ae O;generalize ((w1.setCell ⟨w.heap.size,0,none⟩ (.slice ao Z cap)).setCell ⟨w.heap.size,1,none⟩ (.int .i64 ((i1:Nat):Int))).setCell ⟨w.heap.size,2,none⟩ (.int .i64 c1)=W at*;refine dG ?_;intro b0 b1 b2 C t0 t1 t2 t3 V u x2 t y0 F y2 y3 P l;clear C t0 t1 t2 t3 V u x2 t y0 F y2 y3 P l;go_wp2_with fail;clear b0 b1 b2;refine Calls.mono (aw.u _ i1 2 c1 S.u.gr aG dk) ?_;rintro e w1 ⟨rfl,hb⟩;rw [E2.u];dsimp only;have O:=Qe<|S.u.below hb
    clear hb S;have S:=Qe<|O.u.setR (.slice ao Z cap) ((i2:Nat):Int) c2
    unfold wR at S;refine dO ?_;intro b0 b1 b2 C t0 t1 t2 t3 V u x2 t y0 F y2 y3 P l;refine dA ?_;intro ag G ae;clear C t0 t1 t2 t3 V u x2 t y0 F y2 y3 P l;go_upto_region 6 with fail;clear b0 b1 b2 ag G ae O;generalize ((w1.setCell ⟨w.heap.size,0,none⟩ (.slice ao Z cap)).setCell ⟨w.heap.size,1,none⟩ (.int .i64 ((i2:Nat):Int))).setCell ⟨w.heap.size,2,none⟩ (.int .i64 c2)=W at*;refine dG ?_;intro b0 b1 b2 C t0 t1 t2 t3 V u x2 t y0 F y2 y3 P l;clear C t0 t1 t2 t3 V u x2 t y0 F y2 y3 P l;go_wp2_with fail;clear b0 b1 b2;refine Calls.mono (Q0 ao Z cap i2 c2 ((K:Int) == 3) _) ?_;rintro e w1 ⟨rfl,hb⟩;rw [o.u];dsimp only;have O:=Qe<|S.u.below hb
    clear hb S;have S:=Qe<|O.u.setR (.slice ao Z cap) ((i3:Nat):Int) c3
    unfold wR at S;refine dO ?_;intro b0 b1 b2 C t0 t1 t2 t3 V u x2 t y0 F y2 y3 P l;refine dA ?_;intro ag G ae;clear C t0 t1 t2 t3 V u x2 t y0 F y2 y3 P l;go_upto_region 7 with fail;clear b0 b1 b2 ag G ae O;generalize ((w1.setCell ⟨w.heap.size,0,none⟩ (.slice ao Z cap)).setCell ⟨w.heap.size,1,none⟩ (.int .i64 ((i3:Nat):Int))).setCell ⟨w.heap.size,2,none⟩ (.int .i64 c3)=W at*;clear E1 E2 o aG;have b8:=ba.u;clear ba;rcases b8 with ⟨ax,b3⟩|⟨ax,hK,bx⟩|⟨ax,hK,bm⟩|⟨ax,hK,bz⟩
    ·have az:(c3 == 0)=false:=by simp [ax]
     have AN:dm (Vu s zs pr D k cf (bst L1) (fun _=>True) (i3,c3) al):=b3.off ax;have MU:dm (bMu Z i3 c3 L1<bMu Z y 0 0):=Qfk (fun h=>absurd h ax) (fun h=>absurd h ax);rw [a9.u] at MU;clear ax b3;refine dL ?_;intro b0 b1 b2 C t0 t1 t2 t3 V u x2 t y0 F y2 y3 P l;clear C t0 t1 t2 t3 V u x2 t y0 F y2 y3 P l;go_wp2_with fail;clear b0 b1 b2;go_roundg (bMu Z i3 c3 L1)
     case measure=>exact MU.u
     case rel=>exact ⟨L1,i3,c3,aa,ca,al,rfl,au,rfl,aV,S,AN⟩
    ·subst ax
     have bB:=Qe bx;have q:dm (y<i3):=N.u rfl;have aA:((K:Int) == 0)=true:=f5;have bF:¬0<K:=dk;have d:B<=W.heap.size:=iE;clear bx hK N;refine dG ?_;intro b0 b1 b2 C t0 t1 t2 t3 V u x2 t y0 F y2 y3 P l;clear C V u x2 t y0 F y2 y3 P l;go_wp2_with fail;clear b0 b1 b2 t0 t1 t2 t3;refine Calls.mono (ak.u _ i3 aa ca al (decide (L1=1)) S.u.gr S.u.own d bB.u) ?_;rintro e w3 ⟨T,cr,ar,a2,ah,rfl,ai,Y,af,a6⟩;refine iF ?_;intro S3 SG;have a3:=Qe a6;clear ai Y af a6 S;unfold wT wR at S3;obtain ⟨⟨b0,b1,b2,C⟩,t0,t1,t2,t3,⟨_,_,_,_⟩,_,_,_,_,P,_⟩:=SG.u;refine dA ?_;intro ag G ae;refine eE ?_;intro aH aN aM aP;clear C P;go_upto_region 9 with fail;clear b0 b1 b2 t0 t1 t2 t3 ag G ae aH aN aM aP SG;generalize ((((((w3.setCell ⟨w.heap.size,0,none⟩ (.slice ao Z cap)).setCell ⟨w.heap.size,1,none⟩ (.int .i64 ((T:Nat):Int))).setCell ⟨w.heap.size,2,none⟩ (.int .i64 cr)).setCell ⟨w.heap.size+1,0,none⟩ (.slice ar (List.length ah) a2)).setCell ⟨w.heap.size+1,1,none⟩ (.int .i64 (D:Nat))).setCell ⟨w.heap.size+1,2,none⟩ (.int .i64 (s:Nat))).setCell ⟨w.heap.size+1,3,none⟩ (.int .i64 Mx)=W9 at*;refine kG ?_;intro AN ay;have aX:i3<=T:=a3.u.2;have MU:dm (bMu Z T cr L1<bMu Z y 0 0):=Qfk (fun _=>by have:=q.u;omega) (fun _=>ay);rw [a9.u] at MU;clear a3 aX;by_cases aI:cr=0
     ·subst aI
      obtain ⟨⟨b0,b1,b2,C⟩,t0,t1,t2,t3,⟨V,u,x2,t⟩,y0,F,y2,y3,P,l⟩:=S3.u.sm;clear C t0 t1 t2 t3 V u x2 t y0 F y2 y3 P l;go_wp2_with fail;clear b0 b1 b2;go_roundg (bMu Z T 0 L1)
      case measure=>exact MU.u
      case rel=>exact ⟨L1,T,0,ar,a2,ah,rfl,au,rfl,ay,S3,AN⟩
     ·have az:(cr == 0)=false:=by simp [aI]
      clear aI;obtain ⟨⟨b0,b1,b2,C⟩,t0,t1,t2,t3,⟨V,u,x2,t⟩,y0,F,y2,y3,P,l⟩:=S3.u.sm;clear C t0 t1 t2 t3 V u x2 t y0 F y2 y3 P l;go_wp2_with fail;clear b0 b1 b2;exact qa
    ·subst ax
     have b6:=Qe<|Qnd aQ.u bm
     have q:dm (y<i3):=N.u rfl;have aA:((K:Int) == 0)=false:=f5;have a0:((K:Int) == 2)=false:=f5;have bC:0<K:=dk;clear bm hK N;refine dG ?_;intro b0 b1 b2 C t0 t1 t2 t3 V u x2 t y0 F y2 y3 P l;clear C t0 t1 t2 t3 V u x2 t y0 F y2 y3 P l;go_wp2_with fail;clear b0 b1 b2;refine Calls.mono (QeS _) ?_;rintro e w5 ⟨g5,b5,bA,b9,rfl,ab,aS,hb⟩;have O:=Qe<|S.u.below hb
     clear hb S;have S:=O;clear O;have R5:=Qe ab;have R6:=Qe aS;have d:B<=w5.heap.size:=iE;have bd:dm (okC F288=true/\okC F32=true/\F288.length<=320/\F32.length<=320):=⟨Qnu,QqJ,hH,by rw [QoU];decide⟩;clear ab aS;generalize F288=ls at*;generalize F32=ds at*;refine dG ?_;intro b0 b1 b2 C t0 t1 t2 t3 V u x2 t y0 F y2 y3 P l;clear C V u x2 t y0 F y2 y3 P l;go_wp2_with fail;clear b0 b1 b2 t0 t1 t2 t3;refine Calls.mono (bk.u _ i3 aa ca al (decide (L1=1)) ls ds _ _ _ _ S.u.gr S.u.own d R5.u R6.u bd.u b6.u) ?_;rintro e w3 ⟨T,cr,ar,a2,ah,rfl,ai,Y,af,a6⟩;refine iF ?_;intro S3 SG;have a3:=Qe a6;clear ai Y af a6 S;unfold wT wR at S3;obtain ⟨⟨b0,b1,b2,C⟩,t0,t1,t2,t3,⟨_,_,_,_⟩,_,_,_,_,P,_⟩:=SG.u;refine dA ?_;intro ag G ae;refine eE ?_;intro aH aN aM aP;clear C P;go_wp2_with fail;clear b0 b1 b2 t0 t1 t2 t3 ag G ae aH aN aM aP SG;generalize ((((((w3.setCell ⟨w.heap.size,0,none⟩ (.slice ao Z cap)).setCell ⟨w.heap.size,1,none⟩ (.int .i64 ((T:Nat):Int))).setCell ⟨w.heap.size,2,none⟩ (.int .i64 cr)).setCell ⟨w.heap.size+1,0,none⟩ (.slice ar (List.length ah) a2)).setCell ⟨w.heap.size+1,1,none⟩ (.int .i64 (D:Nat))).setCell ⟨w.heap.size+1,2,none⟩ (.int .i64 (s:Nat))).setCell ⟨w.heap.size+1,3,none⟩ (.int .i64 Mx)=W9 at*;refine kG ?_;intro AN ay;have aX:i3<=T:=a3.u.2;exact qb
    ·subst ax
     obtain ⟨l0,k2,m,H,J,hE,M,j⟩:=QqW aQ.u bz;have bt:dm (k2=1->i3<=m.i):=fun h=>by have:=hE.mono_i h;omega
     have bc:=Qe (fun W hW=>aJ.u W i3 k2 m l0 hW aV H J hE);have p:=Qe M;have a7:=Qe j;have q:dm (y<i3):=N.u rfl;have aA:((K:Int) == 0)=false:=f5;have a0:((K:Int) == 2)=true:=f5;have bC:0<K:=dk;clear bz hK N H J hE M j;refine dG ?_;intro b0 b1 b2 C t0 t1 t2 t3 V u x2 t y0 F y2 y3 P l;clear C t0 t1 t2 t3 V u x2 t y0 F y2 y3 P l;go_wp2_with fail;clear b0 b1 b2;refine Calls.mono (QeS _) ?_;rintro e w5 ⟨g5,b5,bA,b9,rfl,ab,aS,hb⟩;have O:=Qe<|S.u.below hb
     clear hb S;have S:=O;clear O ab aS;generalize F288.length=bD at*;generalize F32.length=bj at*;refine dG ?_;intro b0 b1 b2 C t0 t1 t2 t3 V u x2 t y0 F y2 y3 P l;clear C t0 t1 t2 t3 V u x2 t y0 F y2 y3 P l;go_wp2_with fail;clear b0 b1 b2;refine Calls.mono (bc.u _ S.u.gr) ?_;rintro e w6 ⟨i4,c4,a4,n4,p4,a5,n5,p5,rfl,bw,bq,hb,bb,bh⟩;rw [av.u];have O:=Qe<|S.u.below hb
     have bs:=Qe bw;have br:=Qe bq;have aL:i4<=8*Z:=by rw [<-av.u];exact bb
     have b7:=S.u.sm.lt;clear hb S bw bq bb;have g6:=QD w6 w.heap.size (.slice ao Z cap) ((i4:Nat):Int) c4;have aT:dm (∀z zs,z=a4\/z=a5->Qv w6 z zs->Qv (wR w6 w.heap.size (.slice ao Z cap) ((i4:Nat):Int) c4) z zs):=fun z zs hz h=>h.grownR g6 (fun g e=>by have:w5.heap.size<=g:=bh g (by rcases hz with rfl|rfl;exact .inl e;exact .inr e);simp;omega)
     clear g6 bh b7;have S:=Qe<|O.u.setR (.slice ao Z cap) ((i4:Nat):Int) c4
     unfold wR at S aT;refine dO ?_;intro b0 b1 b2 C t0 t1 t2 t3 V u x2 t y0 F y2 y3 P l;refine dA ?_;intro ag G ae;clear C t0 t1 t2 t3 V u x2 t y0 F y2 y3 P l;go_upto_region 13 with fail;clear b0 b1 b2 ag G ae O;generalize ((w6.setCell ⟨w.heap.size,0,none⟩ (.slice ao Z cap)).setCell ⟨w.heap.size,1,none⟩ (.int .i64 ((i4:Nat):Int))).setCell ⟨w.heap.size,2,none⟩ (.int .i64 c4)=W6 at*;by_cases X:k2=1
     ·obtain ⟨rfl,rfl,rfl,rfl,aq,Q⟩:=bs.u X
      obtain ⟨o1,o2,o3,o4,bn⟩:=p.u X;have bd:=Qe<|And.intro o1 (And.intro o2 (And.intro o3 o4))
      have bp:dm (y<m.i):=by have J:=q.u;have h2:=bt.u X;show _<_;omega
      have R5:=Qe<|aT.u _ _ (.inl rfl) aq
      have R6:=Qe<|aT.u _ _ (.inr rfl) Q
      have b4:=Qe bn;clear o1 o2 o3 o4 bn aq Q p a7 bs br aT bc bt q X;have q:=bp;clear bp;generalize m.lens.take (m.f 2).toNat=ls at*;generalize m.lens.drop (m.f 2).toNat=ds at*;generalize m.i=i4 at*;have d:B<=W6.heap.size:=iE;refine dG ?_;intro b0 b1 b2 C t0 t1 t2 t3 V u x2 t y0 F y2 y3 P l;clear C V u x2 t y0 F y2 y3 P l;go_wp2_with fail;clear b0 b1 b2 t0 t1 t2 t3;refine Calls.mono (bk.u _ i4 aa ca al (decide (L1=1)) ls ds _ _ _ _ S.u.gr S.u.own d R5.u R6.u bd.u b4.u) ?_;rintro e w3 ⟨T,cr,ar,a2,ah,rfl,ai,Y,af,a6⟩;refine iF ?_;intro S3 SG;have a3:=Qe a6;clear ai Y af a6 S;unfold wT wR at S3;obtain ⟨⟨b0,b1,b2,C⟩,t0,t1,t2,t3,⟨_,_,_,_⟩,_,_,_,_,P,_⟩:=SG.u;refine dA ?_;intro ag G ae;refine eE ?_;intro aH aN aM aP;clear C P;go_wp2_with fail;clear b0 b1 b2 t0 t1 t2 t3 ag G ae aH aN aM aP SG;generalize ((((((w3.setCell ⟨w.heap.size,0,none⟩ (.slice ao Z cap)).setCell ⟨w.heap.size,1,none⟩ (.int .i64 ((T:Nat):Int))).setCell ⟨w.heap.size,2,none⟩ (.int .i64 cr)).setCell ⟨w.heap.size+1,0,none⟩ (.slice ar (List.length ah) a2)).setCell ⟨w.heap.size+1,1,none⟩ (.int .i64 (D:Nat))).setCell ⟨w.heap.size+1,2,none⟩ (.int .i64 (s:Nat))).setCell ⟨w.heap.size+1,3,none⟩ (.int .i64 Mx)=W9 at*;refine kG ?_;intro AN ay;have aX:i4<=T:=a3.u.2;exact qb
     ·obtain ⟨aY,bo⟩:=a7.u X
      obtain rfl:=br.u X;have az:(c4 == 0)=false:=by simp [aY]
      have AN:dm (Vu s zs pr D k cf (bst L1) (fun _=>True) (i4,c4) al):=(bo i4 (by rw [av.u];exact aL)).off aY;have MU:dm (bMu Z i4 c4 L1<bMu Z y 0 0):=Qfk (fun h=>absurd h aY) (fun h=>absurd h aY);rw [a9.u] at MU;clear aY bo X a7 p bs br aT bc bt;refine dL ?_;intro b0 b1 b2 C t0 t1 t2 t3 V u x2 t y0 F y2 y3 P l;clear C t0 t1 t2 t3 V u x2 t y0 F y2 y3 P l;go_wp2_with fail;clear b0 b1 b2;go_roundg (bMu Z i4 c4 L1)
      case measure=>exact MU.u
      case rel=>exact ⟨L1,i4,c4,aa,ca,al,rfl,au,rfl,aL,S,AN⟩
   ·have au:L=1:=dk
    have bu:((L:Int) == 0)=false:=by rw [au];rfl
    have aj:dm (Vu s zs pr D k cf 16 (fun _=>True) (y,0) al):=by
     have h:=A.u;rw [au,QoE] at h;exact h
    clear A au bl a9;refine dL ?_;intro b0 b1 b2 C t0 t1 t2 t3 V u x2 t y0 F y2 y3 P l;clear C t0 t1 t2 t3 V u x2 t y0 F y2 y3 P l;go_upto_region 15 with fail;clear b0 b1 b2;refine dL ?_;intro b0 b1 b2 C t0 t1 t2 t3 V u x2 t y0 F y2 y3 P l;refine er ?_;intro aE aD aC aK aO aB aF;clear C t P l;have DN:=Qe (fun W hW=>S.u.post (Rel:=fun r' all'=>Vu s zs pr D k cf 16 (fun _=>True) r' all') aj.u W hW);clear S;go_region
    go_wp2_with fail;have U:=DN.u _ (.inl rfl);unfold wT wR at U;obtain ⟨⟨k0,k1,k2,k3,k4,k5,k6⟩,P1,P2⟩:=U;exact bodyPost_ret (v:=.tuple #[.agg #[.slice ao Z cap,.int .i64 ((y:Nat):Int),.int .i64 0],.agg #[.slice aa (List.length al) ca,.int .i64 (D:Nat),.int .i64 (s:Nat),.int .i64 Mx]]) qc rfl d8
  ·have az:(c' == 0)=false:=dX
   have aj:dm (Vu s zs pr D k cf 16 (fun _=>True) (y,c') al):=A.u.off I;clear A I a9;refine dL ?_;intro b0 b1 b2 C t0 t1 t2 t3 V u x2 t y0 F y2 y3 P l;clear C t0 t1 t2 t3 V u x2 t y0 F y2 y3 P l;go_upto_region 15 with fail;clear b0 b1 b2;refine dL ?_;intro b0 b1 b2 C t0 t1 t2 t3 V u x2 t y0 F y2 y3 P l;refine er ?_;intro aE aD aC aK aO aB aF;clear C t P l;have DN:=Qe (fun W hW=>S.u.post (Rel:=fun r' all'=>Vu s zs pr D k cf 16 (fun _=>True) r' all') aj.u W hW);clear S;go_region
   go_wp2_with fail;have U:=DN.u _ (.inl rfl);unfold wT wR at U;obtain ⟨⟨k0,k1,k2,k3,k4,k5,k6⟩,P1,P2⟩:=U;exact bodyPost_ret (v:=.tuple #[.agg #[.slice ao Z cap,.int .i64 ((y:Nat):Int),.int .i64 c'],.agg #[.slice aa (List.length al) ca,.int .i64 (D:Nat),.int .i64 (s:Nat),.int .i64 Mx]]) qc rfl d8
end
section
variable{s:Nat}{zs:List Int}
theorem Vv.ex(hzl:zs.length<=65536):∀(n:Nat) (c:IC),Qag zs c->imu zs c<n->∃k cf,Vv s zs c k cf:=by
 intro n;induction n with
 | zero=>intro c _ h;omega
 | succ n ih=>
  intro c A M;by_cases U:c.st<=15
  ·cases hs:Qq s zs c with
   | inl c'=>
    obtain ⟨g1,g2⟩:=Qa3 A U hzl hs;obtain ⟨k,cf,h⟩:=ih c' g1 dk;exact ⟨k,cf,.more U hs h⟩
   | inr x=>exact ⟨x.1,x.2,.bad U hs⟩
  ·exact ⟨1,c,.fin U⟩
theorem Vu.ended{pr:List Int}{D:Nat}{k:Int}{cf:IC}{i:Nat}{cl:Int}{all:List Int}(h:Vu s zs pr D k cf 16 (fun _=>True) (i,cl) all):cf.u=pr++all.drop D/\(cl≠0->k=cl/\(if k=1 then (cf.lc.i:Int) else 0)=0)/\(cl=0->k=1/\(if k=1 then (cf.lc.i:Int) else 0)=(i:Int)):=by
 by_cases H:cl=0
 ·obtain ⟨c,J,h2,h3,h4,U,h6,h7⟩:=h.yes H
  obtain ⟨rfl,rfl⟩:=h6.at16 J;refine ⟨h4,fun e=>absurd H e,fun _=>⟨rfl,?_⟩⟩;rw [if_pos rfl,h2]
 ·obtain ⟨J,h2,h3⟩:=h.no H
  refine ⟨h3,fun _=>⟨J.symm,?_⟩,fun e=>absurd e H⟩;rw [if_neg h2]
theorem Qeu(Mx:Int)(s:Nat)(d:List Int)(bo:Option Addr)(cb:Nat)(w:World)(ha:Arg w bo cb d)(hs0:0<s)(hs1:s<=32768)(hd:d.length<=4194304):
  Calls prog 42 #[.int .i64 (s:Nat),.slice bo d.length cb,.int .i64 Mx] w fun e w'=>∃a c,e=.returned (.agg #[.slice a (lastN s d).length c,.int .i64 ((lastN s d).length:Nat),.int .i64 (s:Nat),.int .i64 Mx])/\Qi 5 w.heap.size w' a c (lastN s d)/\Below w.heap.size w w':=by
 have b0:Below w.heap.size w (w.alloc (.cells #[.slice none 0 0,.int .i64 0,.int .i64 0,.int .i64 0] 91)):=(Below.refl _ _).alloc (Nat.le_refl _) _;have HL:=Qe<|Qk3 s d bo cb _ (ha.below b0) hs0 hs1 hd
 have af:(w.alloc (.cells #[.slice none 0 0,.int .i64 0,.int .i64 0,.int .i64 0] 91)).heap.size=w.heap.size+1:=dr;have k0:(w.alloc (.cells #[.slice none 0 0,.int .i64 0,.int .i64 0,.int .i64 0] 91)).cell? ⟨w.heap.size,0,none⟩=some (.slice none 0 0):=dF;have k1:(w.alloc (.cells #[.slice none 0 0,.int .i64 0,.int .i64 0,.int .i64 0] 91)).cell? ⟨w.heap.size,1,none⟩=some (.int .i64 0):=dF;have k2:(w.alloc (.cells #[.slice none 0 0,.int .i64 0,.int .i64 0,.int .i64 0] 91)).cell? ⟨w.heap.size,2,none⟩=some (.int .i64 0):=dF;have k3:(w.alloc (.cells #[.slice none 0 0,.int .i64 0,.int .i64 0,.int .i64 0] 91)).cell? ⟨w.heap.size,3,none⟩=some (.int .i64 0):=dF;have b:∀o,(w.alloc (.cells #[.slice none 0 0,.int .i64 0,.int .i64 0,.int .i64 0] 91)).frozen? ⟨w.heap.size,o,none⟩=false:=fun o=>dF
 rw [af] at HL;have B0:=Qe b0;have g:=Qe<|And.intro k0 (And.intro k1 (And.intro k2 (And.intro k3 b)))
 generalize lastN s d=X at*;clear ha b0 k0 k1 k2 k3 b;go_enter func42,ntmps42;go_wp2_with fail;refine Calls.mono HL.u ?_;rintro e w1 ⟨a,c,rfl,ho,hb⟩;have z1:w.heap.size<w1.heap.size:=eT;have f:∀o,w1.cell? ⟨w.heap.size,o,none⟩=(w.alloc (.cells #[.slice none 0 0,.int .i64 0,.int .i64 0,.int .i64 0] 91)).cell? ⟨w.heap.size,o,none⟩:=fun o=>hb.cell (p:=⟨w.heap.size,o,none⟩) (Nat.lt_succ_self _)
 have K:∀o,w1.frozen? ⟨w.heap.size,o,none⟩=(w.alloc (.cells #[.slice none 0 0,.int .i64 0,.int .i64 0,.int .i64 0] 91)).frozen? ⟨w.heap.size,o,none⟩:=fun o=>hb.frozen (p:=⟨w.heap.size,o,none⟩) (Nat.lt_succ_self _)
 obtain ⟨k0,k1,k2,k3,b⟩:=g.u;have C:=(f 0).trans k0;have c1:=(f 1).trans k1;have c2:=(f 2).trans k2;have c3:=(f 3).trans k3;have f0:=(K 0).trans (b 0);have f1:=(K 1).trans (b 1);have f2:=(K 2).trans (b 2);have f3:=(K 3).trans (b 3);have h:=Qe<|QbI C c1 c2 c3 (.slice a X.length c) ((X.length:Nat):Int) ((s:Nat):Int) Mx
 have u:=Qac w1 w.heap.size (.slice a X.length c) ((X.length:Nat):Int) ((s:Nat):Int) Mx;have HO:=Qe<|Qi.grown (Qi.mono (B':=w.heap.size) ho dk) u (fun k e e2=>by have:=Qi.based ho k e2;simp at e;omega)
 have HB:=Qe<|(B0.u.trans (hb.mono dk)).grown u dk (fun k e=>dJ)
 clear ho hb f K k0 k1 k2 k3 b g u HL B0;unfold wT at h HO HB;go_wp2_with fail;obtain ⟨y0,F,y2,y3,_⟩:=h.u;exact bodyPost_ret (v:=.agg #[.slice a X.length c,.int .i64 ((X.length:Nat):Int),.int .i64 (s:Nat),.int .i64 Mx]) (by simp [results,results42,go_sem,y0,F,y2,y3]) rfl ⟨a,c,rfl,HO.u,HB.u⟩
theorem QqD(w:World)(A:Obj)(e:TypeId):((w.alloc A).alloc (.cells #[] e)).ownsRow (w.heap.size+1) e 1 (.slice (some ⟨w.heap.size+1,0,none⟩) 0 0) 0 []:=by
 have h:=World.ownsRow_lit (base:=w.heap.size+1) (e:=e) (size:=1) (w.alloc A) #[] 0 dr dy rfl;exact jN
theorem Qg1(a:Option Addr)(c:Nat)(all:List Int)(D s:Nat)(Mx:Int)(w:World)(hr:Q1 w a all)(hfit:all.length<=c)(hcm:c<=maxLen)(hnil:a=none->c=0)(hD:D<=all.length)(hal:all.length<=200000):
  Calls prog 44 #[.agg #[.slice a all.length c,.int .i64 (D:Nat),.int .i64 (s:Nat),.int .i64 Mx]] w fun e w'=>∃a' c',e=.returned (.slice a' (all.drop D).length c')/\Qi 5 w.heap.size w' a' c' (all.drop D)/\Below w.heap.size w w':=by
 refine dP ?_;intro i0 hi af ak aq;have b1:Below w.heap.size w ((w.alloc (.cells #[.slice a all.length c,.int .i64 (D:Nat),.int .i64 (s:Nat),.int .i64 Mx] 91)).alloc (.cells #[] 5)):=((Below.refl _ _).alloc (Nat.le_refl _) _).alloc dr _;have O0:=Qe<|QqD w (.cells #[.slice a all.length c,.int .i64 (D:Nat),.int .i64 (s:Nat),.int .i64 Mx] 91) 5
 have o:=Qe b1;have d:=(hr.below b1).cut (k:=D) hfit;have aO:Qa2 a c D=none->(all.drop D).length=0/\c-D=0:=by
  intro e;unfold Qa2 at e;rw [List.length_drop];split at e
  ·omega
  ·cases a with
   | none=>have:=hnil rfl;omega
   | some x=>simp at e
 unfold maxLen at hcm;have h:(D:Int)<=(all.length:Int):=dk;have f:all.length-D=(all.drop D).length:=by rw [List.length_drop]
 generalize all.drop D=g at*;clear hr hnil b1;by_cases a2:c=D
 ·have he:Qa2 a c D=a:=if_pos a2
  rw [he] at d aO;clear he;subst a2;rw [Nat.sub_self] at aO;have u:dm (a=none->g.length=0/\0=0):=aO;have b:=Qe d;clear aO d;go_enter func44,ntmps44;go_wp2_with (at_builtin;refine Qm _ rfl _ _ 22 rfl (w.heap.size+1) 5 i0 (.int .u8 0) 1 underlying22 hi af ak aq rfl (.slice (some ⟨w.heap.size+1,0,none⟩) 0 0) 0 [] rfl O0.u (a) (0) g (by first|rfl|(rw [f];rfl)) b.u (fun e=>⟨(u.u e).1,rfl⟩) dy dk dr ?_)
  exact qd
 ·have he:Qa2 a c D=a.map (·.add D):=if_neg a2
  rw [he] at d aO;have u:=Qe aO;have b:=Qe d;clear he aO d;go_enter func44,ntmps44;go_wp2_with (at_builtin;refine Qm _ rfl _ _ 22 rfl (w.heap.size+1) 5 i0 (.int .u8 0) 1 underlying22 hi af ak aq rfl (.slice (some ⟨w.heap.size+1,0,none⟩) 0 0) 0 [] rfl O0.u (a.map (·.add D)) (c-D) g (by first|rfl|(rw [f];rfl)) b.u u.u dy dk dr ?_)
  exact qd
end
end Go.Proofs.YtgginbpmebgkcaaGreatDoor
namespace Go.Proofs.YtgginbpmebgkcaaGreatDoor
open Go.RowKit Go.Proofs.Tryz
set_option linter.unusedVariables false
set_option maxRecDepth 100000
set_option maxHeartbeats 25600000
section
variable{zs:List Int}{w w':World}{p:Nat}{row:Option Nat}{tv:Value}{D s Mx:Int}
theorem Vv.octJ{s K:Nat}(hz:Qh zs)(hzl:zs.length<=65536){k:Int}{c cf:IC}(h:Vv s zs c k cf)(hW:Qag zs c)(hb:IBd K c):Qh cf.u:=by
 obtain ⟨n,M⟩:=h;induction n generalizing c with
 | zero=>exact M.elim
 | succ n ih=>
  rcases M with ⟨J,rfl,rfl⟩|⟨J,E⟩|⟨J,c',E,h3⟩
  ·exact hb.o
  ·rw [Qdj E]
   exact hb.o
  ·exact ih (Qa3 hW J hzl E).1 (QdS hz hW hb J E) h3
def QiK(H:Nat):Bool:=decide (H%31≠0\/H/256%16≠8\/7<H/4096)
def szH(H:Nat):Nat:=if H/4096<=7 then 2^(H/4096+8) else 32768
def Qe6(H:Nat):Bool:=decide (H/32%2=1)
def zR2(zs:List Int):RR:=VJ (hiN zs 2 (0,0) 0).1 (QiK (hiN zs 2 (0,0) 0).2)
def diP(d:List Int)(t:RR×Nat):RR:=if t.1.2=0/\(d=[]\/Adl.adl d≠(t.2:Int)) then (t.1.1,5) else t.1
def zR3(zs d:List Int):RR:=if Qe6 (hiN zs 2 (0,0) 0).2=true then diP d (hiN zs 4 (zR2 zs) 0) else zR2 zs
def Qa9(zs d:List Int):List Int:=if Qe6 (hiN zs 2 (0,0) 0).2=true then d else []
theorem QnV{H:Nat}(h:H<65536):0<szH H/\szH H<=32768:=by
 unfold szH;split
 ·exact ⟨Nat.two_pow_pos _,Nat.le_trans (Nat.pow_le_pow_right dn (show H/4096+8<=15 by omega)) dn⟩
 ·omega
theorem QjU:∀(n:Nat) (r:RR) (x:Nat),r.1<=8*zs.length->(hiN zs n r x).1.1<=8*zs.length:=by
 intro n;induction n with
 | zero=>intro r x h;exact h
 | succ n ih=>intro r x h;exact ih _ _ (Qar h)
theorem Qn4:∀(n:Nat) (r:RR) (x m:Nat),x<256^m->(hiN zs n r x).2<256^(m+n):=by
 intro n;induction n with
 | zero=>intro r x m h;exact h
 | succ n ih=>
  intro r x m h;have hb:=QhL zs r;have:=ih (tk zs r 8).1 (256*x+(tk zs r 8).2) (m+1) (by rw [Nat.pow_succ];omega);rw [show m+1+n=m+(n+1) by omega] at this;exact this
def Qcm(zs:List Int)(r:RR)(out:List Int):RR:=suP (hiN zs 4 (alP r) 0).1 (decide (((hiN zs 4 (alP r) 0).2:Int)≠Adl.adl out))
theorem Qqn{r:RR}{b:Bool}{n:Nat}(h:r.1<=n):(VJ r b).1<=n:=by unfold VJ;split<;>exact h
theorem Qpp(a b:Int):(a != b)=decide (a≠b):=by
 by_cases h:a=b<;>simp [h]
structure Tb4(w:World)(p:Nat)(tv:Value)(D s Mx:Int):Prop where
 c0:w.cell? ⟨p,0,none⟩=some tv
 c1:w.cell? ⟨p,1,none⟩=some (.int .i64 D)
 c2:w.cell? ⟨p,2,none⟩=some (.int .i64 s)
 c3:w.cell? ⟨p,3,none⟩=some (.int .i64 Mx)
 f:∀k,w.frozen? ⟨p,k,none⟩=false
theorem QkV(w:World)(tv:Value)(D s Mx:Int)(t:TypeId):Tb4 (w.alloc (.cells #[tv,.int .i64 D,.int .i64 s,.int .i64 Mx] t)) w.heap.size tv D s Mx:=by
 refine ⟨?_,?_,?_,?_,fun k=>?_⟩<;>simp [go_sem]
theorem Tb4.far(h:Tb4 w p tv D s Mx)(hg:w.grownBy w' row)(hne:some p≠row):Tb4 w' p tv D s Mx:=by
 have e:=hg.block p (World.block_lt_of_cell? w _ h.c0) hne;exact qM
theorem Tb4.set(h:Tb4 w p tv D s Mx)(tv':Value)(D' s' Mx':Int):Tb4 (wT w p tv' D' s' Mx') p tv' D' s' Mx':=by
 obtain ⟨m,a1,a2,q,a⟩:=QbI h.c0 h.c1 h.c2 h.c3 tv' D' s' Mx'
 exact ⟨m,a1,a2,q,fun o=>(a o).trans (h.f o)⟩
theorem QcQ.far2J{g:Nat}{v0 v1 v2:Value}(h:QcQ w g v0 v1 v2)(hg:w.grownBy w' row)(hne:some g≠row):QcQ w' g v0 v1 v2:=by
 have e:=hg.block g (World.block_lt_of_cell? w _ h.c0) hne;exact ⟨(World.cell?_of_block (w:=w) e).trans h.c0,(World.cell?_of_block (w:=w) e).trans h.c1,(World.cell?_of_block (w:=w) e).trans h.c2,fun o=>(World.frozen?_of_block (w:=w) e).trans (h.f o)⟩
theorem QjX(zs:List Int):(zR2 zs).1<=8*zs.length:=Qqn (QjU 2 _ _ (Nat.zero_le _))
theorem Qpf(d:List Int)(t:RR×Nat):(diP d t).1=t.1.1:=by unfold diP;split<;>rfl
end
end Go.Proofs.YtgginbpmebgkcaaGreatDoor
