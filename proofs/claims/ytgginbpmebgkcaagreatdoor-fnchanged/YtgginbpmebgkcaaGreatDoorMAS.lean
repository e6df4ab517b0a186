import Derived.BigRegion
import Derived.Laws.CopyOwn
import Derived.Laws.BytesArg
import Derived.Deep.Cut
import Derived.Deep.CutRange
import Derived.Test.YtgginbpmebgkcaaGreatDoorMAC
import Derived.Test.YtgginbpmebgkcaaGreatDoorMAD
namespace Go.Proofs.YtgginbpmebgkcaaGreatDoor
open Go.RowKit Go.Proofs.Tryz
attribute [local go_sem ↓] Go.wp_at_zero Go.wp_at_succ
set_option linter.unusedVariables false
set_option maxRecDepth 100000
set_option maxHeartbeats 25600000
theorem Q1.none_len{w:World}{ao:Option Addr}{zs:List Int}(h:Q1 w ao zs)(e:ao=none):zs.length=0:=by
 rcases Nat.eq_zero_or_pos zs.length with H|H
 ·exact H
 ·obtain ⟨b,U,e',_⟩:=h 0 H
  rw [e] at e';cases e'
section
variable{w:World}{B e D n:Nat}{xs:List Value}
def QaZ(t:List Int)(dist n k:Nat):List Int:=VG t dist k++List.replicate (n-k) 0
theorem QjL(t:List Int)(dist n k:Nat)(h:k<=n):(QaZ t dist n k).length=n:=by simp [QaZ,Qam];omega
theorem QiM(t:List Int)(dist n:Nat):QaZ t dist n 0=List.replicate n 0:=by simp [QaZ,VG,QM]
theorem Qk9(t:List Int)(dist n:Nat):QaZ t dist n n=VG t dist n:=by simp [QaZ]
theorem Qij(t:List Int)(dist n k:Nat)(h:k<n):(QaZ t dist n k).set k ((QM t dist k).getD ((QM t dist k).length-dist) 0)=QaZ t dist n (k+1):=by
 have e2:n-k=(n-(k+1))+1:=dk;unfold QaZ;rw [Qde,e2,List.replicate_succ,List.set_append_right _ _ (by rw [Qam];omega),Qam];simp
theorem Qkv(t:List Int)(dist n k:Nat)(h:k<n)(x:Int)(hx:x=(QM t dist k).getD ((QM t dist k).length-dist) 0):((QaZ t dist n k).map (Value.int .u8)).set k (.int .u8 x)=(QaZ t dist n (k+1)).map (Value.int .u8):=by
 rw [<-Qij t dist n k h,List.map_set,hx]
def QaH(w:World)(g s:Nat)(t:List Int):Prop:=∃rs p c,Q6 w g rs s (p:Nat) (c:Nat)/\VT rs s p c t
theorem Qpr(s p dist:Nat)(hp:p<s)(h0:1<=dist)(h1:dist<=s):∃q,q=wr s (p+s-dist)/\q<s/\((p:Int)+(s:Int)-(dist:Int)).tmod (s:Int)=(q:Int):=by
 refine ⟨_,rfl,eN,?_⟩;rw [<-Qnw dk,show (p:Int)+(s:Int)-(dist:Int)=((p+s-dist:Nat):Int) by omega,<-Int.ofNat_tmod]
theorem Qic{w':World}{g:Nat}(h:w.ownsRow B e 1 (.slice (some ⟨D,0,none⟩) n n) n xs)(hg:w.grownBy w' (some g))(hne:D≠g):w'.ownsRow B e 1 (.slice (some ⟨D,0,none⟩) n n) n xs:=by
 refine World.ownsRow.kept h hg (.inr ?_);intro he;have:D=g:=by simpa [Value.ownBlock] using he
 exact hne this
theorem Qi9(h:w.ownsRow B e 1 (.slice (some ⟨D,0,none⟩) n n) n xs):w.drew.ownsRow B e 1 (.slice (some ⟨D,0,none⟩) n n) n xs:=h
end
section
variable{w:World}
theorem Qlh(w:World)(g:Nat):w.grownBy w.drew (some g):=Qk ((Below.refl w.heap.size w).drew) _
theorem Qm3{a b c:World}{r r':Option Nat}(h:a.grownBy b r)(k:b.grownBy c r')(hr:∀g,r'=some g->r=some g\/a.heap.size<=g):a.grownBy c r:=oC
theorem QhH{g:Nat}{w0:World}(hb:w0.grownBy w (some g))(cs:Array Value):w0.grownBy (w.setRow g cs) (some g):=
 Qj hb ⟨rfl,rfl,rfl,by simp [World.setRow],fun k hk hne=>setRow_other w g k cs (fun e=>hne fa)⟩
theorem QcZ{P:Program}{ops:Array Oper}{o:Oper}{a:Act}{K:Act->World->Prop}{Q:Exit->Act->World->Prop}{E:Prop}(hgd:o.guard=none)(d s:Operand)(dT sT:TypeId)(ho:o.op=.call {callee:=.builtin .copy,args:=#[d,s],argTypes:=#[dT,sT]})(elem:TypeId)(hu:P.underlying dT=some (.slice elem))(hsz:(P.info? elem).map (·.size)=some 1)(dp sp:Option Addr)(dLen dCap sLen sCap:Nat)(hd:a.eval d=.slice dp dLen dCap)(hs:a.eval s=.slice sp sLen sCap)(g off:Nat)(cur:List Value)(t:TypeId)(hg:w.heap[g]?=some (.cells cur.toArray t (0,0)))(cs:List Value)(hn:cs.length=Nat.min sLen dLen)(hpos:0<cs.length->dp=some ⟨g,off,none⟩/\∃ad,sp=some ad/\∀j v,cs[j]?=some v->w.cell? (ad.add j)=some v)(hfit:off+cs.length<=cur.length)(h1:∀v∈cs,v.oneCell'=true)(w0:World)(hb:w0.grownBy w (some g))(h:∀w',dm (w'.heap[g]?=some (.cells (splice cur off cs).toArray t (0,0)))->w0.grownBy w' (some g)->K (a.put o.dst (goInt cs.length)) w'):
  if Region.wanted o (yielded ops a.tmps)=true then Oper.wp P o a w K Q else E:=by
 have A:Region.wanted o (yielded ops a.tmps)=true:=by simp [Region.wanted,hgd]
 rw [if_pos A];by_cases H:cs.length=0
 ·obtain rfl:cs=[]:=List.eq_nil_of_length_eq_zero H
  have f:=run_copy_none (P:=P) w dT sT o.type elem dp sp dLen dCap sLen sCap hu hsz (by simpa using hn.symm);unfold Oper.wp;simp [execOp,ho,resolve,invoke,builtin,hd,hs,f,Result.andThen];exact h w (show _=_ by simpa [splice] using hg) hb
 ·obtain ⟨rfl,ad,rfl,ai⟩:=hpos dk
  have f:=run_copy_row (P:=P) w dT sT o.type elem g off dLen dCap ad sLen sCap cur.toArray t cs hu hsz hg hn ai (by simpa using hfit) h1;unfold Oper.wp;simp [execOp,ho,resolve,invoke,builtin,hd,hs,f,Result.andThen];exact h _ (show _=_ by simpa [splice] using setRow_heap w g _ _ t _ hg) (QhH hb _)
theorem Qpu(g:Nat)(rs:List Int)(s p c:Nat)(t d:List Int)(ao:Option Addr)(cap:Nat)(w:World)(h:Q6 w g rs s p c)(hI:VT rs s p c t)(hs:s<=32768)(hr:Q1 w ao d)(hf:d.length<=cap)(hcap:cap<=maxLen)(hb:∀ad,ao=some ad->ad.block≠g):
  Calls prog 186 #[.pointer (some ⟨g,0,none⟩),.slice ao d.length cap] w fun e w'=>e=.returned (.tuple #[])/\(∃rs' p' c',Q6 w' g rs' s (p':Nat) (c':Nat)/\VT rs' s p' c' (lastN s (t++d)))/\w.grownBy w' (some g):=by
 obtain ⟨C,c1,c2,G⟩:=h.three;have HR:=QZ hr;have P:=QZ hI;have b:=QZ h;have N:=hI.place;have E:=hI.pos;unfold maxLen at hcap;clear hr h hI G;go_enter func186,ntmps186;go_upto_region 0 with fail;go_cut [1] from 5 to 14 (fun v wx=>∃l K,v=.slice l (lastN s d).length K/\Q1 wx l (lastN s d)/\wx=w/\(lastN s d).length<=K/\K<=9223372036854775807/\∀ad,l=some ad->ad.block≠g)
 case first=>
  go_wp2_with fail
  ·have e:lastN s d=d:=QaI dk
   go_meet;exact ⟨ao,0,fa,by rw [e];exact HR.u,rfl,gV,dk,hb⟩
  ·have e:lastN s d=d.drop (d.length-s):=rfl
   have O:(lastN s d).length=d.length-(d.length-s):=by rw [e,List.length_drop]
   go_meet;refine ⟨_,_,by rw [O],HR.u.last dk,rfl,dk,dk,?_⟩;exact oz
  ·have e:lastN s d=d:=QaI dk
   go_meet;exact ⟨ao,cap,fa,by rw [e];exact HR.u,rfl,gV,dk,hb⟩
 case rest=>
  obtain ⟨l,K,rfl,L,A,B,S,f⟩:=hcut;have o:=A.symm;subst o;clear hb HR hf hcap;have r:(lastN s d).length<=s:=fh;have HT:=QZ<|QgG s t d
  generalize hD:lastN s d=D at*;clear hD;have HR:=QZ L;clear L;refine oA ?_;intro X1 Z k hk y au W Q M HK;clear Q hk;have q:=QZ Z;clear Z;have R:=Qex g p s N hs w.drew;have P1:dm (0<X1.length->some (⟨g,p,none⟩:Addr)=some ⟨g,p,none⟩/\∃ad,l=some ad/\∀j v,X1[j]?=some v->w.drew.cell? (ad.add j)=some v):=by
   intro H;refine ⟨rfl,?_⟩;rw [q.u] at H ⊢;exact (HR.u.take (s-p)).first gW
  have P2:dm (p+X1.length<=(rs.map (Value.int .u8)++[Value.int .i64 s,Value.int .i64 p,Value.int .i64 c]).length):=by
   show _<=_;rw [List.length_append,List.length_map,b.u.len];simp;omega
  have z:dm (∀v∈X1,v.oneCell'=true):=by
   show ∀v∈X1,v.oneCell'=true;rw [q.u];exact ints_oneCell _ _
  go_upto_region 1 with fail;go_cut [4] from 15 to 28 (fun v wx=>v=.int .i64 (k:Nat)/\Q6 wx g (splice rs p (D.take (s-p))) s p c/\w.grownBy wx (some g))
  case first=>
   go_region_law (refine QcZ rfl (.tmp 26) (.tmp 27) 22 22 rfl 5 underlying22 Tryz.size_u8 (some ⟨g,p,none⟩) l (s-p) (32768-p) D.length K eh eh g p _ 255 b.u.heap X1 (by rw [y];exact HK.u.trans (Nat.min_comm _ _)) P1.u P2.u z.u w (Qlh w g) ?_;intro w4 F T)
   all_goals
    have h4:Q6 w4 g (splice rs p (D.take (s-p))) s p c:=Qbz b.u du (by have e:=F.u;rw [q.u] at e;exact e);go_wp2_with fail;go_meet;exact ⟨rfl,h4,T⟩
  case rest=>
  obtain ⟨rfl,h4,T⟩:=hcut;obtain ⟨w4,aC⟩:∃x,x=wc:=⟨_,rfl⟩;subst aC;have n:=QZ h4;clear R P1 P2 z C c1 c2 q y h4 b;have V:=QZ<|P.u.copies r
  have aT:=QZ<|HR.u.grown T (fun ad e h=>f ad e eI)
  obtain ⟨a3,hE,I,a⟩:=QkP l D K k W B;obtain ⟨X2,ab⟩:∃X2,X2=(D.drop (s-p)).map (Value.int .u8):=⟨_,rfl⟩;have m:X2.length=D.length-k:=by rw [ab,List.length_map,<-M.u,List.length_drop]
  have a1:=QZ ab;have J:=QZ<|a w4 aT.u
  clear ab I a;have P1:dm (0<X2.length->some (⟨g,0,none⟩:Addr)=some ⟨g,0,none⟩/\∃ad,a3=some ad/\∀j v,X2[j]?=some v->w4.drew.cell? (ad.add j)=some v):=by
   intro H;refine ⟨rfl,?_⟩;rw [a1.u,<-M.u] at H ⊢;exact J.u.first gW
  have P2:dm (0+X2.length<=((splice rs p (D.take (s-p))).map (Value.int .u8)++[Value.int .i64 s,Value.int .i64 p,Value.int .i64 c]).length):=by
   show _<=_;rw [List.length_append,List.length_map,n.u.len,m];simp;omega
  have z:dm (∀v∈X2,v.oneCell'=true):=by
   show ∀v∈X2,v.oneCell'=true;rw [a1.u];exact ints_oneCell _ _
  go_upto_region 2 with fail;go_cut [4] from 29 to 36 (fun v wx=>v=.int .i64 (k:Nat)/\Q6 wx g (splice (splice rs p (D.take (s-p))) 0 (D.drop (s-p))) s p c/\w.grownBy wx (some g))
  case first=>
   go_region_law (refine QcZ rfl (.tmp 32) (.tmp 35) 22 22 rfl 5 underlying22 Tryz.size_u8 (some ⟨g,0,none⟩) a3 32768 32768 (D.length-k) (K-k) gX gX g 0 _ 255 n.u.heap X2 oB P1.u P2.u z.u w (Qj T (Qlh _ g)) ?_;intro w5 Y az)
   all_goals
    have U:Q6 w5 g (splice (splice rs p (D.take (s-p))) 0 (D.drop (s-p))) s p c:=Qbz n.u du (by have e:=Y.u;rw [a1.u] at e;exact e);go_wp2_with fail;go_meet;exact ⟨rfl,U,az⟩
  case rest=>
  obtain ⟨rfl,U,az⟩:=hcut;have an:=P.u.most;have HM:=QZ<|Qdh g _ s p c D.length wc U E hs N an r
  clear U P1 P2 z a1 m hE;go_wp2_with fail;refine Calls.mono HM.u ?_;rintro e w6 ⟨rfl,h6,i,aa⟩;go_wp2_with fail;go_end0;refine ⟨rfl,⟨_,_,_,h6,?_⟩,?_⟩
  ·rw [<-HT.u]
   exact V.u
  ·exact Qj az i
end
theorem Qki(g s:Nat)(t:List Int)(dist n:Nat)(w:World)(h:QaH w g s t)(hs:s<=32768)(hd0:1<=dist)(hd:dist<=t.length)(hn0:1<=n)(hn:n<=258):
  Calls prog 212 #[.pointer (some ⟨g,0,none⟩),.int .i64 dist,.int .i64 n] w fun e w'=>e=.returned (.slice (some ⟨w.heap.size,0,none⟩) n n)/\w'.ownsRow w.heap.size 5 1 (.slice (some ⟨w.heap.size,0,none⟩) n n) n ((VG t dist n).map (Value.int .u8))/\QaH w' g s (lastN s (QM t dist n))/\w.grownBy w' (some g):=by
 refine ei ?_;intro i0 hi af ak aq;have hm:n<=maxLen:=dy;have HT:=QZ h;have X:g<w.heap.size:=by obtain ⟨_,_,_,J,_⟩:=h;exact J.lt
 have j:t.length<=s:=by obtain ⟨_,_,_,_,J⟩:=h;have:=J.len;have:=J.most;omega
 clear h;go_enter func212,ntmps212;go_wp2_with (at_make;refine wpList_make_full _ rfl _ _ 22 rfl w.heap.size 5 i0 (.int .u8 0) 1 underlying22 hi af ak _ _ _ _ n rfl rfl rfl rfl gD hm (Nat.le_refl _) ?_)
 intro w1 R Q;rw [toList_madeCells_one,<-List.map_replicate,<-QiM t dist n] at R;have ag:QaH w1 g s (lastN s (QM t dist 0)):=by
  obtain ⟨W,p,c,J,h2⟩:=HT.u;refine ⟨W,p,c,J.grown Q dr,?_⟩;rw [show QM t dist 0=t from rfl,QaI j];exact h2
 have H:w.grownBy w1 (some g):=⟨Q.os,Q.tape,Q.output,Q.size,fun k hk _=>Q.block k hk dr⟩;clear Q HT;go_wp2_with fail;go_loopw [13] (fun i wr=>∃k:Nat,k<=n/\i=.int .i64 k/\wr.ownsRow w.heap.size 5 1 (.slice (some ⟨w.heap.size,0,none⟩) n n) n ((QaZ t dist n k).map (Value.int .u8))/\QaH wr g s (lastN s (QM t dist k))/\w.grownBy wr (some g)) (fun i _=>n-(intOf i).toNat)
 case atStart=>exact ⟨0,Nat.zero_le _,rfl,R,ag,H⟩
 case round=>
  clear R ag H;obtain ⟨k,hk,rfl,R,⟨W,p,c,hA,hI⟩,a⟩:=hrel;by_cases ab:k<n
  ·have N:=hI.place
   have E:=hI.pos;have Z:=hI.len;have an:=hI.most;have I:dist<=c:=by rw [<-Z,QC,VV];omega
   have aR:=hI.back hd0 I;rw [<-Z,QlR s _ dist dk gU] at aR;have a6:=hA.len;obtain ⟨q,hq,r,v⟩:=Qpr s p dist N hd0 dk;rw [<-hq] at aR;generalize hx:W.getD q 0=x at*;have K:=hA.byte (i:=q) dk;rw [hx] at K;obtain ⟨C,c1,c2,G⟩:=hA.three;have aN:=R.frozenAt k;obtain ⟨u,b⟩:∃u,wr.cell? ⟨w.heap.size,k,none⟩=some u:=by
    rw [R.cellAt k dk];exact ⟨_,List.getElem?_eq_getElem (by simp [QjL t dist n k hk];exact ab)⟩
   have d:=(R.stored k (.int .u8 x)).1;rw [Qkv t dist n k ab x aR] at d;have B:=QZ<|hA.grown (Qf wr ⟨w.heap.size,k,none⟩ (.int .u8 x)) du
   have o:=QZ<|Qm3 a (Qf wr ⟨w.heap.size,k,none⟩ (.int .u8 x)) dz
   have HS:=QZ d;have P:=QZ hI;have f:(q:Int)<32768:=dk;have a7:(k:Int)<(n:Int):=dk;have l:=QZ aR;clear R d hA a hI hq hx G Z aR;go_upto_region 5 with fail;go_region
   have A2:Q6 (wr.setCell ⟨w.heap.size,k,none⟩ (.int .u8 x)).drew g W s p c:=B.u.drewN 1;have B2:w.grownBy (wr.setCell ⟨w.heap.size,k,none⟩ (.int .u8 x)).drew (some g):=Qj o.u (Qlh _ g);have S2:=Qi9 HS.u;have a5:(wr.setCell ⟨w.heap.size,k,none⟩ (.int .u8 x)).drew.cell? ⟨w.heap.size,k,none⟩=some (.int .u8 x):=World.cell?_setCell_same _ _ _ b;clear B o HS K C c1 c2 aN b v f r;generalize (wr.setCell ⟨w.heap.size,k,none⟩ (.int .u8 x)).drew=w2 at*;obtain ⟨C,c1,c2,G⟩:=A2.three;have A:=A2.byte (i:=p) dk;have L:=G p;have aS:(p:Int)<32768:=dk;have A3:=A2.setByte (i:=p) dk x;have aw:w2.grownBy (w2.setCell ⟨g,p,none⟩ (.int .u8 x)) (some g):=Qf w2 ⟨g,p,none⟩ (.int .u8 x);have B3:=Qj B2 aw;have S3:=Qic S2 aw dk;have m:dm (Q6 (w2.setCell ⟨g,p,none⟩ (.int .u8 x)).drew g (W.set p x) s p c):=A3.drewN 1;have z:dm (w.grownBy (w2.setCell ⟨g,p,none⟩ (.int .u8 x)).drew (some g)):=Qj B3 (Qlh _ g);have ba:=QZ<|Qi9 S3
   clear A2 B2 S2 A3 aw B3 S3 G;go_upto_region 6 with fail;go_region
   clear C c1 c2 A L a5;generalize (w2.setCell ⟨g,p,none⟩ (.int .u8 x)).drew=w3 at*;have HM:=QZ<|Qdh g (W.set p x) s p c 1 w3 m.u E hs N an dk
   go_wp2_with fail;refine Calls.mono HM.u ?_;rintro e w4 ⟨rfl,A4,F,bf⟩;have O:=Qic ba.u F dk;have y:=Qj z.u F;have D:=P.u.one x;have M:lastN s (QM t dist k++[x])=lastN s (QM t dist (k+1)):=by rw [l.u];rfl
   rw [Qb7,M] at D;clear HM m z ba P F bf;go_wp2_with fail;go_roundw
   case rel=>exact ⟨k+1,dk,dw,O,⟨_,_,_,A4,D⟩,y⟩
   case measure=>simp [intOf];omega
  ·have e:k=n:=dk
   subst e;rw [Qk9] at R;go_wp2_with fail;go_ret;exact ⟨rfl,R,⟨W,p,c,hA,hI⟩,a⟩
section
variable{w:World}{ao:Option Addr}{cap:Nat}{zs:List Int}
structure Arg(w:World)(ao:Option Addr)(cap:Nat)(zs:List Int):Prop where
 row:Q1 w ao zs
 fits:zs.length<=cap
 most:cap<=maxLen
 lies:∀ad,ao=some ad->ad.block<w.heap.size
 bare:ao=none->cap=0
theorem Arg.below{w':World}(h:Arg w ao cap zs)(hb:Below w.heap.size w w'):Arg w' ao cap zs:=
 {h with row:=h.row.below hb,lies:=fun ad e=>Nat.lt_of_lt_of_le (h.lies ad e) hb.size}
theorem Qah.arg{B:Nat}(h:Qah B w ao cap zs):Arg w ao cap zs:=
 ⟨h.row,h.fits,h.most,fun ad e=>(h.lies ad e).2.1,h.bare⟩
theorem QpL(W:World)(base e g:Nat)(hb:base<=W.heap.size)(hg:W.heap.size=g):(W.alloc (.cells #[] e)).ownsRow base e 1 (.slice (some ⟨g,0,none⟩) 0 0) 0 []:=kC
theorem Qk3(n:Nat)(d:List Int)(ao:Option Addr)(cap:Nat)(w:World)(ha:Arg w ao cap d)(hn0:0<n)(hn:n<=32768)(hd:d.length<=4194304):
  Calls prog 79 #[.slice ao d.length cap,.int .i64 n] w fun e w'=>∃ao' cap',e=.returned (.slice ao' (lastN n d).length cap')/\Qi 5 w.heap.size w' ao' cap' (lastN n d)/\Below w.heap.size w w':=by
 refine dP ?_;intro i0 hi af ak aq;have al:Below w.heap.size w (w.alloc (.cells #[] 5)):=(Below.refl _ _).alloc (Nat.le_refl _) _;have a1:=ha.below al;by_cases h:d.length<=n
 ·have e:lastN n d=d:=QaI h
  rw [e];go_enter func79,ntmps79;go_wp2_with (at_builtin;refine Qm _ rfl _ _ 22 rfl w.heap.size 5 i0 (.int .u8 0) 1 underlying22 hi af ak aq rfl (.slice (some ⟨w.heap.size,0,none⟩) 0 0) 0 [] rfl (QpL _ _ _ _ (Nat.le_refl _) rfl) ao cap d rfl a1.row (fun e=>⟨a1.row.none_len e,a1.bare e⟩) dy dk dr ?_)
  intro v' w1 R Q aa;obtain ⟨ao',cap',e',ho⟩:=Qi.of R;rw [e'];have hb:=al.grown Q dr kH;clear R Q aa a1 ha e' al e;go_wp2_with fail;go_ret;exact ⟨ao',cap',rfl,ho,hb⟩
 ·have y:=a1.row.last (k:=d.length-n) dk
  have hl:(lastN n d).length=n:=fh;have e:d.drop (d.length-n)=lastN n d:=rfl;rw [e] at y;have C:cap<=maxLen:=ha.most;unfold maxLen at C;have b:=ha.fits;have c:d.length-(d.length-n)=n:=dk;have aO:¬cap=d.length-n:=dk;generalize lastN n d=D at*;have HR:=QZ y;have a:dm (ao=none->cap=0):=ha.bare;clear y e a1 ha;go_enter func79,ntmps79;go_wp2_with (at_builtin;refine Qm _ rfl _ _ 22 rfl w.heap.size 5 i0 (.int .u8 0) 1 underlying22 hi af ak aq rfl (.slice (some ⟨w.heap.size,0,none⟩) 0 0) 0 [] rfl (QpL _ _ _ _ (Nat.le_refl _) rfl) (ao.map (·.add (d.length-n))) (cap-(d.length-n)) D (by rw [hl];rfl) HR.u (fun e=>⟨HR.u.none_len e,by cases ao with|none=>have:=a.u rfl;omega|some x=>cases e⟩) dy dk dr ?_)
  intro v' w1 R Q aa;obtain ⟨ao',cap',e',ho⟩:=Qi.of R;rw [e'];have hb:=al.grown Q dr kH;clear R Q aa e' al;go_wp2_with fail;go_ret;exact ⟨ao',cap',rfl,ho,hb⟩
end
theorem QdI(w:World)(ao:Option Addr)(cap:Nat)(zs:List Int)(h:Q1 w ao zs):
  (convert 22 9 (.slice ao zs.length cap)).run prog w=.ok (.string (strOfNums zs)) w:=by
 cases ao with
 | none=>
  have:zs=[]:=List.eq_nil_of_length_eq_zero (h.none_len rfl);subst this;rw [run_convert_bytes_nil w 22 5 underlying22 underlying5 _ _ 9 underlying9];rfl
 | some ad=>
  rcases Nat.eq_zero_or_pos zs.length with H|H
  ·have:zs=[]:=List.eq_nil_of_length_eq_zero H
   subst this;rw [run_convert_bytes_string w 22 9 5 _ _ _ underlying22 underlying5 underlying9,List.length_nil,run_bytesToString w ad 0 cap [] (by simpa using run_loadCells_list (P:=prog) w ad [] dr)];rfl
  ·obtain ⟨b,U,e,I⟩:=h.at H
   simp only [Option.some.injEq] at e;subst e;exact run_convert_bytes_arg w 22 5 underlying22 underlying5 b U zs.length cap zs rfl I 9 underlying9
theorem QdB(ao bo:Option Addr)(ca cb:Nat)(zs:List Int)(w:World)(ha:Q1 w ao zs)(hb:Q1 w bo zs):
  Calls prog 7 #[.slice ao zs.length ca,.slice bo zs.length cb] w fun e w'=>e=.returned (.bool true)/\w'=w:=by
 have J:=QdI w ao ca zs ha;have h2:=QdI w bo cb zs hb;clear ha hb;generalize strOfNums zs=S at*;go_enter func7,ntmps7;exact ey
end Go.Proofs.YtgginbpmebgkcaaGreatDoor
