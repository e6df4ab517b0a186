import Derived.BigRegion
import Derived.Test.YtgginbpmebgkcaaGreatDoorMAC
import Derived.Test.YtgginbpmebgkcaaGreatDoorMAN
import Derived.Test.YtgginbpmebgkcaaGreatDoorMAX
import Derived.Test.YtgginbpmebgkcaaGreatDoorMBE
import Derived.Test.YtgginbpmebgkcaaGreatDoorMBF
import Derived.Test.YtgginbpmebgkcaaGreatDoorMBH
namespace Go.Proofs.YtgginbpmebgkcaaGreatDoor
open Go.RowKit Go.Proofs.Tryz
set_option linter.unusedVariables false
set_option maxRecDepth 100000
set_option maxHeartbeats 25600000
def Qcp:List Nat->Nat
 | []=>0
 | b::L=>b+2*Qcp L
theorem Qc2(L M:List Nat):Qcp (L++M)=Qcp L+2^L.length*Qcp M:=by
 induction L with
 | nil=>simp [Qcp]
 | cons b L ih=>
  rw [List.cons_append,Qcp,Qcp,ih,List.length_cons,Nat.pow_succ];rw [Nat.mul_add,Nat.add_assoc,<-Nat.mul_assoc,Nat.mul_comm 2 (2^L.length)]
theorem QpF{L:List Nat}(h:Bin L):Qcp L<2^L.length:=by
 induction L with
 | nil=>simp [Qcp]
 | cons b L ih=>
  have J:=h b (List.mem_cons_self ..);have h2:=ih (fun x hx=>h x (List.mem_cons_of_mem _ hx));rw [Qcp,List.length_cons,Nat.pow_succ];omega
theorem QiZ(v n:Nat):Qcp (QV v n)=v%2^n:=by
 induction n with
 | zero=>simp [Qc1,Qcp,Nat.mod_one]
 | succ n ih=>
  rw [Qcw,Qc2,ih,Vx,Nat.mod_pow_succ];simp [Qcp]
theorem QmZ{xs:List Int}(k:Nat)(x d:Nat)(hk:k<xs.length)(hx:xs.getD k 0=(x:Int)):bnum (xs.set k (xs.getD k 0+(d:Int)))=bnum xs+256^k*d:=by
 induction xs generalizing k with
 | nil=>simp at hk
 | cons y ys ih=>
  cases k with
  | zero=>
   have e:y=(x:Int):=by simpa using hx
   subst e;show bnum (((x:Int)+(d:Int))::ys)=_;rw [bnum,bnum];rw [show ((x:Int)+(d:Int)).toNat=x+d by omega,show ((x:Int)).toNat=x by omega];omega
  | succ k=>
   have l:ys.getD k 0=(x:Int):=by simpa using hx
   have a:k<ys.length:=by simpa using hk
   have h:=ih k a l;have e:(y::ys).getD (k+1) 0=ys.getD k 0:=dr;rw [e,List.set_cons_succ,bnum,bnum,h,Nat.pow_succ,Nat.mul_add];rw [<-Nat.mul_assoc,Nat.mul_comm 256 (256^k)];omega
theorem Qjv(k:Nat):256^k=2^(8*k):=by rw [Nat.pow_mul]
theorem QoX(L:List Nat)(hL:Bin L):bnum (pk L)=Qcp L:=by
 induction L using Qcy with
 | h0=>rw [QnI];rfl
 | h1 L b ih=>
  have hb:b<=1:=hL b dr;have h:=hL.left;rw [Qb6,Qc2];have V:Qcp [b]=b:=by simp [Qcp]
  rw [V];unfold Qc0;have ai:=QaB L;by_cases h8:L.length%8=0
  ·rw [if_pos h8,VX,ih h,Qjv,ai,show 8*((L.length+7)/8)=L.length by omega]
   have:bnum [(b:Int)]=b:=by
    rw [bnum,bnum];omega
   rw [this]
  ·rw [if_neg h8]
   obtain ⟨x,hx,_⟩:=Qhh L h h8;rw [QmZ (L.length/8) x (b*2^(L.length%8)) dk hx,ih h,Qjv];have e:2^(8*(L.length/8))*(b*2^(L.length%8))=2^L.length*b:=by
    rw [Nat.mul_comm b,<-Nat.mul_assoc,<-Nat.pow_add,show 8*(L.length/8)+L.length%8=L.length by omega]
   rw [e]
theorem QnW{ls:List Int}(hok:okC ls=true)(hss:SS ls 15<=32768){S:Nat}(hc:VQ ls S){b n:Nat}(hn:ln ls S<=n)(hn2:n<=64)(hb:b%2^ln ls S=cb ls S):nx3 ls b n=(1,S,ln ls S):=by
 have a:cov ls S (tr (b%2^n) 15):=by
  refine (Qck hc hss _).1 ?_;rw [QcN _ _ _ hn];exact hb
 rw [Qd8 hok hn2 a,if_pos hn]
section
variable{S:Nat}
def QoK(s:Nat)(c:IC)(K S l:Nat):IC⊕(Int×IC):=
 if K=1 then
  if S<256 then
   if 100000<c.u.length+1 then .inr (6,{c with lc:={c.lc with i:=c.lc.i+l}}) else .inl (Qap s {c with lc:={c.lc with i:=c.lc.i+l}} [(S:Int)])
  else if S=256 then .inl {c with st:=8,lc:={c.lc with i:=c.lc.i+l}}
  else if 285<S then .inr (3,{c with lc:={c.lc with i:=c.lc.i+l}})
  else .inl {c with st:=13,base:=(VF S).1,extra:=(VF S).2,lc:={c.lc with i:=c.lc.i+l}}
 else if K=2 then .inr (2,c) else .inr (3,c)
theorem Qg2{s:Nat}{zs:List Int}{c:IC}(h:c.st=12){K l:Nat}(hx:nx3 c.ul (field (bnum zs) c.lc.i (Nat.min (8*zs.length-c.lc.i) 15)) (Nat.min (8*zs.length-c.lc.i) 15)=(K,S,l)):Qq s zs c=QoK s c K S l:=by
 have e:Qq s zs c=VS s zs c:=by simp [Qq,h]
 rw [e];have e2:VS s zs c=QoK s c (nx3 c.ul (field (bnum zs) c.lc.i (Nat.min (8*zs.length-c.lc.i) 15)) (Nat.min (8*zs.length-c.lc.i) 15)).1 (nx3 c.ul (field (bnum zs) c.lc.i (Nat.min (8*zs.length-c.lc.i) 15)) (Nat.min (8*zs.length-c.lc.i) 15)).2.1 (nx3 c.ul (field (bnum zs) c.lc.i (Nat.min (8*zs.length-c.lc.i) 15)) (Nat.min (8*zs.length-c.lc.i) 15)).2.2:=rfl;rw [e2,hx]
theorem QkU:SS F288 15<=32768:=by decide+kernel
theorem QgD:VQ F288 256:=⟨eg,eg,eg,eg⟩
theorem Qfa(h:VQ F288 S):QcW S=QV (cb F288 S) (ln F288 S):=by
 unfold QcW;rw [Qpm jn]
theorem Qeh(S:Nat):Bin (QcW S):=Qax _ _
end
theorem Qkr{S:Nat}(h:S<288):VQ F288 S:=by
 have f:∀S:Fin 288,F288.getD S.val 0=(ln F288 S.val:Int)/\1<=ln F288 S.val/\ln F288 S.val<=15:=eg;obtain ⟨J,h2,h3⟩:=f ⟨S,h⟩;exact ⟨by rw [Ve];exact h,J,h2,h3⟩
theorem QgE(zs:List Int)(m j:Nat):∃R,Bin R/\Qad zs (m+j)=Qad zs m++R:=by
 induction j with
 | zero=>exact ⟨[],fun b hb=>(by cases hb),dr⟩
 | succ j ih=>
  obtain ⟨R,J,h2⟩:=ih;refine ⟨R++QcW (zs.getD (m+j) 0).toNat,J.app (Qeh _),?_⟩;rw [<-Nat.add_assoc,Qad,h2,List.append_assoc]
theorem Qkx(zs:List Int)(m:Nat)(h:m<zs.length)(S:Nat)(hS:zs.getD m 0=(S:Int))(h2:S<256):∃R,Bin R/\Qr zs=Qad zs m++(QV (cb F288 S) (ln F288 S)++R):=by
 obtain ⟨R,h3,h4⟩:=QgE zs (m+1) (zs.length-(m+1));refine ⟨R++QcW 256,h3.app (Qeh _),?_⟩;unfold Qr;rw [show zs.length=m+1+(zs.length-(m+1)) by omega,h4,Qad,hS,<-Qfa (Qkr dk)];simp only [List.append_assoc,Int.toNat_natCast]
theorem QfR(zs:List Int):Qr zs=Qad zs zs.length++(QV (cb F288 256) (ln F288 256)++[]):=by
 unfold Qr;rw [Qfa QgD,List.append_nil]
theorem Qaw(zs:List Int):Bin (Qr zs):=(QbP zs zs.length).app (Qeh _)
theorem Qm7(zs:List Int):Qad zs 0=[1,1,0]:=rfl
section
variable{A:List Int}{p s n:Nat}{L:List Nat}{c d c':IC}
def Qcd(A:List Int)(p:Nat)(L:List Nat):Prop:=(∃X,bnum A/2^(8*p)=Qcp L+2^L.length*X)/\8*p+L.length<=8*A.length
theorem QiI(pre post:List Int)(L:List Nat)(hL:Bin L)(hp:Qh pre):Qcd (pre++(pk L++post)) pre.length L:=by
 have ai:=QaB L;refine ⟨⟨2^(8*(pk L).length-L.length)*bnum post,?_⟩,?_⟩
 ·have ab:=Qb1 pre hp
  rw [Qjv] at ab;rw [VX,Qjv,Nat.add_mul_div_left _ _ (Nat.two_pow_pos _),Nat.div_eq_of_lt ab,Nat.zero_add,VX,QoX L hL,Qjv,<-Nat.mul_assoc,<-Nat.pow_add,show L.length+(8*(pk L).length-L.length)=8*(pk L).length by omega]
 ·simp only [List.length_append]
  omega
theorem Qk6{M:List Nat}(h:Qcd A p (L++M))(hL:Bin L):∃X,bnum A/2^(8*p+L.length)=Qcp M+2^M.length*X:=by
 obtain ⟨⟨X,hX⟩,_⟩:=h;refine ⟨X,?_⟩;rw [Nat.pow_add,<-Nat.div_div_eq_div_mul,hX,Qc2,List.length_append,Nat.pow_add,Nat.mul_assoc,Nat.add_assoc,<-Nat.mul_add,Nat.add_mul_div_left _ _ (Nat.two_pow_pos _),Nat.div_eq_of_lt (QpF hL),Nat.zero_add]
theorem Qjl{ls:List Int}(hok:okC ls=true)(hss:SS ls 15<=32768){S:Nat}(hc:VQ ls S){R:List Nat}(hL:Bin L)(h:Qcd A p (L++(QV (cb ls S) (ln ls S)++R))){i:Nat}(hi:i=8*p+L.length):
  nx3 ls (field (bnum A) i (Nat.min (8*A.length-i) 15)) (Nat.min (8*A.length-i) 15)=(1,S,ln ls S):=by
 subst hi;obtain ⟨X,hX⟩:=Qk6 h hL;have a:=hc.most;have y:=h.2;simp only [List.length_append,Vx] at y;have K:ln ls S<=Nat.min (8*A.length-(8*p+L.length)) 15:=by
  show _<=min _ _;omega
 have b:Nat.min (8*A.length-(8*p+L.length)) 15<=15:=Nat.min_le_right _ _;generalize Nat.min (8*A.length-(8*p+L.length)) 15=n at*;refine QnW hok hss hc K dk ?_;unfold field;rw [hX,QcN _ _ _ K,Qc2,QiZ,Vx,List.length_append,Vx,Nat.pow_add,Nat.mul_assoc,Nat.add_assoc,<-Nat.mul_add,Nat.add_mul_mod_self_left,Nat.mod_mod,Nat.mod_eq_of_lt (Qr7 ls S)]
def RTo(s:Nat)(A:List Int):Nat->IC->IC->Prop
 | 0,c,c'=>c=c'
 | n+1,c,c'=>c.st<=15/\∃d,Qq s A c=.inl d/\RTo s A n d c'
theorem RTo.step(h:c.st<=15)(hs:Qq s A c=.inl d)(h2:RTo s A n d c'):RTo s A (n+1) c c':=⟨h,d,hs,h2⟩
theorem RTo.join{m:Nat}(h:RTo s A n c d)(h2:RTo s A m d c'):RTo s A (n+m) c c':=by
 induction n generalizing c with
 | zero=>
  have e:c=d:=h;rw [e,Nat.zero_add];exact h2
 | succ n ih=>
  obtain ⟨h3,x,h4,U⟩:=h;rw [Nat.add_right_comm];exact ⟨h3,x,h4,ih U⟩
structure Qp8(p:Nat)(o zs:List Int)(m:Nat)(c:IC):Prop where
 st:c.st=12
 i:c.lc.i=8*p+(Qad zs m).length
 ul:c.ul=F288
 last:c.last=true
 u:c.u=o++zs.take m
theorem QqV(s p:Nat)(o zs A:List Int)(hA:Qcd A p (Qr zs))(c:IC)(h:Qp8 p o zs zs.length c):∃n c',RTo s A n c c'/\c'.st=16/\c'.u=o++zs/\c'.lc.i=8*p+(Qr zs).length:=by
 have hx:=Qjl QhD QkU QgD (L:=Qad zs zs.length) (R:=[]) (QbP _ _) (by rw [<-QfR];exact hA) h.i;rw [<-h.ul] at hx;have s1:=Qg2 (s:=s) h.st hx;unfold QoK at s1;rw [if_pos rfl,if_neg dn,if_pos rfl] at s1;have s2:Qq s A {c with st:=8,lc:={c.lc with i:=c.lc.i+ln c.ul 256}}=.inl {c with st:=16,lc:={c.lc with i:=c.lc.i+ln c.ul 256}}:=by
  have e:Qq s A {c with st:=8,lc:={c.lc with i:=c.lc.i+ln c.ul 256}}=QW {c with st:=8,lc:={c.lc with i:=c.lc.i+ln c.ul 256}}:=by simp [Qq]
  rw [e];unfold QW;rw [if_pos h.last]
 refine ⟨2,{c with st:=16,lc:={c.lc with i:=c.lc.i+ln c.ul 256}},.step (by rw [h.st];decide) s1 (.step (show (8:Nat)<=15 by decide) s2 rfl),rfl,?_,?_⟩
 ·show c.u=_
  rw [h.u,List.take_length]
 ·show c.lc.i+ln c.ul 256=_
  rw [h.ul,h.i,QfR,List.length_append,List.append_nil,Vx,Nat.add_assoc]
theorem QnR(s p:Nat)(o zs A:List Int)(hA:Qcd A p (Qr zs))(hz:Qh zs)(hl:o.length+zs.length<=100000)(m:Nat)(hm:m<zs.length)(c:IC)(h:Qp8 p o zs m c):∃c',Qp8 p o zs (m+1) c'/\RTo s A 1 c c':=by
 have O:=hz.getD m;obtain ⟨S,hS⟩:∃S:Nat,zs.getD m 0=(S:Int):=⟨(zs.getD m 0).toNat,dk⟩;have a:S<256:=dk;obtain ⟨R,P,I⟩:=Qkx zs m hm S hS a;have hx:=Qjl QhD QkU (Qkr (S:=S) dk) (L:=Qad zs m) (R:=R) (QbP _ _) (by rw [<-I];exact hA) h.i;rw [<-h.ul] at hx;have s1:=Qg2 (s:=s) h.st hx;unfold QoK at s1;have a5:¬100000<c.u.length+1:=by rw [h.u,List.length_append,List.length_take];omega
 rw [if_pos rfl,if_pos a,if_neg a5] at s1;refine ⟨_,?_,.step (by rw [h.st];decide) s1 rfl⟩;refine ⟨h.st,?_,h.ul,h.last,?_⟩
 ·show c.lc.i+ln c.ul S=_
  rw [h.ul,h.i,Qad,hS,Int.toNat_natCast,Qfa (Qkr dk),List.length_append,Vx,Nat.add_assoc]
 ·show c.u++[(S:Int)]=_
  rw [h.u,List.append_assoc,List.take_add_one,<-hS,List.getD_eq_getElem?_getD,List.getElem?_eq_getElem hm];rfl
theorem Qp2(s p:Nat)(o zs A:List Int)(hA:Qcd A p (Qr zs))(hz:Qh zs)(hl:o.length+zs.length<=100000):∀j m c,m+j=zs.length->Qp8 p o zs m c->∃n c',RTo s A n c c'/\c'.st=16/\c'.u=o++zs/\c'.lc.i=8*p+(Qr zs).length:=by
 intro j;induction j with
 | zero=>
  intro m c hj h;have e:m=zs.length:=dk;subst e;exact QqV s p o zs A hA c h
 | succ j ih=>
  intro m c hj h;obtain ⟨c',y,hE⟩:=QnR s p o zs A hA hz hl m dk c h;obtain ⟨n,b,e1,e2⟩:=ih (m+1) c' dk y;exact ⟨1+n,b,hE.join e1,e2⟩
theorem QmW(s p:Nat)(o zs A:List Int)(hA:Qcd A p (Qr zs))(hz:Qh zs)(hl:o.length+zs.length<=100000)(c:IC)(h1:c.st=7)(h2:c.lc.i=8*p)(h3:c.u=o):∃n c',RTo s A n c c'/\c'.st=16/\c'.u=o++zs/\c'.lc.i=8*p+(Qr zs).length:=by
 obtain ⟨R,P,I⟩:=QgE zs 0 zs.length;rw [Nat.zero_add,Qm7] at I;have hcut:Qr zs=[1,1,0]++(R++QcW 256):=by unfold Qr;rw [I,List.append_assoc]
 have ai:3<=(Qr zs).length:=by rw [hcut,List.length_append];show 3<=3+_;omega
 have a:=hA.2;have Q:field (bnum A) (8*p) 3=3:=by
  obtain ⟨⟨X,hX⟩,_⟩:=hA;unfold field;rw [hX,hcut,Qc2,List.length_append,Nat.pow_add,Nat.mul_assoc,Nat.add_assoc,<-Nat.mul_add];show (3+2^3*_)%2^3=3;rw [Nat.add_mul_mod_self_left]
 have s1:Qq s A c=.inl {c with st:=11,last:=true,lc:={c.lc with i:=8*p+3}}:=by
  have e:Qq s A c=Vf A c:=by simp [Qq,h1]
  rw [e];unfold Vf;rw [h2,Q,if_pos dk,if_neg dn,if_pos dn];rfl
 have s2:Qq s A {c with st:=11,last:=true,lc:={c.lc with i:=8*p+3}}=.inl {c with st:=12,last:=true,lc:={c.lc with i:=8*p+3},fx:=true,ul:=F288,ud:=F32}:=by
  have e:Qq s A {c with st:=11,last:=true,lc:={c.lc with i:=8*p+3}}=QP {c with st:=11,last:=true,lc:={c.lc with i:=8*p+3}}:=by simp [Qq]
  rw [e];rfl
 obtain ⟨n,b,hE,hL⟩:=Qp2 s p o zs A hA hz hl zs.length 0 {c with st:=12,last:=true,lc:={c.lc with i:=8*p+3},fx:=true,ul:=F288,ud:=F32} dk ⟨rfl,rfl,rfl,rfl,by show c.u=_;rw [h3,List.take_zero,List.append_nil]⟩;exact ⟨n+1+1,b,.step (by rw [h1];decide) s1 (.step (show (11:Nat)<=15 by decide) s2 hE),hL⟩
end
section
variable{zs d:List Int}
structure ZC where
 ph:Nat
 sz:Nat
 ic:IC
 bad:Bool
def Qqi(zs d:List Int)(s i:Nat)(t:List Int):Prop:=
 16<=8*zs.length/\QbD (field (bnum zs) 0 16)=false/\s=zsz (field (bnum zs) 0 16)/\((Qcg (field (bnum zs) 0 16)=false/\i=16/\t=lastN s [])\/(Qcg (field (bnum zs) 0 16)=true/\i=48/\t=lastN s d/\48<=8*zs.length/\d≠[]/\((rb4 (field (bnum zs) 16 32):Nat):Int)=Adl.adl d))
def QfA(zs d:List Int)(s:Nat)(c:IC):Prop:=∃i t n,Qqi zs d s i t/\RTo s zs n (icA i t) c
def Qs(zs d:List Int)(c:ZC):ZC⊕(Int×ZC):=
 if c.ph=0 then
  if c.ic.lc.i+16<=8*zs.length then
   if QbD (field (bnum zs) c.ic.lc.i 16)=true then .inr (3,⟨0,0,Vl c.ic (c.ic.lc.i+16),true⟩)
   else if Qcg (field (bnum zs) c.ic.lc.i 16)=true then .inl ⟨1,zsz (field (bnum zs) c.ic.lc.i 16),icA (c.ic.lc.i+16) [],false⟩
   else .inl ⟨2,zsz (field (bnum zs) c.ic.lc.i 16),icA (c.ic.lc.i+16) (lastN (zsz (field (bnum zs) c.ic.lc.i 16)) []),false⟩
  else .inr (2,c)
 else if c.ph=1 then
  if c.ic.lc.i+32<=8*zs.length then
   if d=[]\/((rb4 (field (bnum zs) c.ic.lc.i 32):Nat):Int)≠Adl.adl d then .inr (5,⟨1,c.sz,Vl c.ic (c.ic.lc.i+32),true⟩)
   else .inl ⟨2,c.sz,icA (c.ic.lc.i+32) (lastN c.sz d),false⟩
  else .inr (2,c)
 else if c.ph=2 then
  if c.ic.st<=15 then
   match Qq c.sz zs c.ic with
   | .inl i'=>.inl ⟨2,c.sz,i',false⟩
   | .inr (k,i')=>.inr (k,if k=2 then c else ⟨2,c.sz,i',true⟩)
  else if (c.ic.lc.i+7)/8*8+32<=8*zs.length then
   if ((rb4 (field (bnum zs) ((c.ic.lc.i+7)/8*8) 32):Nat):Int)=Adl.adl c.ic.u then .inl ⟨3,c.sz,Vl c.ic ((c.ic.lc.i+7)/8*8+32),false⟩
   else .inr (4,⟨2,c.sz,Vl c.ic ((c.ic.lc.i+7)/8*8+32),true⟩)
  else .inr (2,⟨2,c.sz,Vl c.ic ((c.ic.lc.i+7)/8*8),true⟩)
 else .inr (0,c)
def zmu(zs:List Int)(c:ZC):Nat:=if c.ph=0 then 128*zs.length+102 else if c.ph=1 then 128*zs.length+101 else if c.ph=2 then imu zs c.ic+1 else 0
def VR(zs d:List Int)(c:ZC):ZC⊕(Int×ZC):=match Qs zs d c with|.inl c'=>if zmu zs c'<zmu zs c then .inl c' else .inr (0,c)|.inr x=>.inr x
def VZ(z q:Nat)(c:ZC):Option (Nat×Array Value):=
 if c.bad=true then none else if c.ph=0 then some (74,#[.pointer (some ⟨z,0,none⟩)]) else if c.ph=1 then some (108,#[.pointer (some ⟨z,0,none⟩)])
 else if c.ph=2 then if c.ic.st<=15 then some (ifn c.ic.st,#[.pointer (some ⟨q,0,none⟩)]) else some (75,#[.pointer (some ⟨z,0,none⟩)])
 else none
structure ZOK(zs d:List Int)(c:ZC):Prop where
 p3:c.ph<=3
 p0:c.bad=false->c.ph=0->c.ic.lc.i=0
 p1:c.bad=false->c.ph=1->16<=8*zs.length/\c.ic.lc.i=16/\c.sz=zsz (field (bnum zs) 0 16)/\QbD (field (bnum zs) 0 16)=false/\Qcg (field (bnum zs) 0 16)=true
 p2:c.bad=false->c.ph=2->Qag zs c.ic/\QfA zs d c.sz c.ic
theorem QdA(zs t:List Int)(i:Nat)(hi:i<=8*zs.length):Qag zs (icA i t):=by
 refine ⟨by show (7:Nat)<=16;omega,hi,Nat.zero_le _,fun h=>?_,fun _=>rfl,fun h=>?_,fun h=>?_,fun h=>?_,fun h _=>?_,fun h=>?_,fun h=>?_,fun h=>?_⟩
 ·have:(7:Nat)<=6:=h;omega
 ·have:(7:Nat)=6:=h;omega
 ·have:(7:Nat)=9\/(7:Nat)=10:=h;omega
 ·have:(7:Nat)=10:=h;omega
 ·have:(12:Nat)<=7:=h;omega
 ·have:(7:Nat)=13:=h;omega
 ·have:(7:Nat)=14\/(7:Nat)=15:=h;omega
 ·have:(7:Nat)=15:=h;omega
theorem Qn1(zs:List Int)(c:IC):imu zs c<=128*zs.length+8:=by
 have:=QhI c.st;unfold imu;omega
theorem Vn{c c':ZC}(hzl:zs.length<=65536)(h:ZOK zs d c)(hb:c.bad=false)(hs:Qs zs d c=.inl c'):ZOK zs d c'/\zmu zs c'<zmu zs c:=by
 unfold Qs at hs;by_cases H:c.ph=0
 ·have b:=h.p0 hb H
  rw [if_pos H,b] at hs;split at hs
  ·rename_i M
   split at hs
   ·cases hs
   ·rename_i l
    have m:QbD (field (bnum zs) 0 16)=false:=by simpa using l
    split at hs
    ·rename_i I
     injection hs with hs;subst hs;refine ⟨⟨by show (1:Nat)<=3;omega,fun _ e=>?_,fun _ _=>⟨dk,rfl,rfl,m,I⟩,fun _ e=>?_⟩,?_⟩
     ·have:(1:Nat)=0:=e;omega
     ·have:(1:Nat)=2:=e;omega
     ·unfold zmu
      rw [if_pos H,if_neg f9,if_pos rfl];omega
    ·rename_i I
     have o:Qcg (field (bnum zs) 0 16)=false:=f6;injection hs with hs;subst hs;refine ⟨⟨eV,fun _ e=>?_,fun _ e=>?_,fun _ _=>⟨QdA zs _ _ M,_,_,0,⟨dk,m,rfl,.inl ⟨o,rfl,rfl⟩⟩,rfl⟩⟩,?_⟩
     ·have:(2:Nat)=0:=e;omega
     ·have:(2:Nat)=1:=e;omega
     ·unfold zmu
      rw [if_pos H,if_neg ek,if_neg en,if_pos rfl];have:=Qn1 zs (icA (0+16) (lastN (zsz (field (bnum zs) 0 16)) []));show imu zs (icA (0+16) (lastN (zsz (field (bnum zs) 0 16)) []))+1<_;omega
  ·cases hs
 rw [if_neg H] at hs;by_cases J:c.ph=1
 ·obtain ⟨K,e1,e2,R,V⟩:=h.p1 hb J
  rw [if_pos J,e1] at hs;split at hs
  ·rename_i M
   split at hs
   ·cases hs
   ·rename_i G
    rw [not_or] at G;obtain ⟨aY,F⟩:=G;have f:((rb4 (field (bnum zs) 16 32):Nat):Int)=Adl.adl d:=by simpa using F
    injection hs with hs;subst hs;refine ⟨⟨eV,fun _ e=>?_,fun _ e=>?_,fun _ _=>⟨QdA zs _ _ M,_,_,0,⟨K,R,e2,.inr ⟨V,rfl,rfl,M,aY,f⟩⟩,rfl⟩⟩,?_⟩
    ·have:(2:Nat)=0:=e;omega
    ·have:(2:Nat)=1:=e;omega
    ·unfold zmu
     rw [if_neg H,if_pos J,if_neg ek,if_neg en,if_pos rfl];have:=Qn1 zs (icA (16+32) (lastN c.sz d));show imu zs (icA (16+32) (lastN c.sz d))+1<_;omega
  ·cases hs
 rw [if_neg J] at hs;by_cases h2:c.ph=2
 ·obtain ⟨hW,i,t,n,hS,hT⟩:=h.p2 hb h2
  rw [if_pos h2] at hs;split at hs
  ·rename_i a
   split at hs
   ·rename_i y hi
    injection hs with hs;subst hs;have A:=Qa3 hW a hzl hi;refine ⟨⟨eV,fun _ e=>?_,fun _ e=>?_,fun _ _=>⟨A.1,i,t,n+1,hS,hT.join (.step a hi rfl)⟩⟩,?_⟩
    ·have:(2:Nat)=0:=e;omega
    ·have:(2:Nat)=1:=e;omega
    ·unfold zmu
     rw [if_neg H,if_neg J,if_pos h2,if_neg ek,if_neg en,if_pos rfl];exact Nat.succ_lt_succ A.2
   ·cases hs
  ·split at hs
   ·split at hs
    ·injection hs with hs
     subst hs;refine ⟨⟨Nat.le_refl _,fun _ e=>?_,fun _ e=>?_,fun _ e=>?_⟩,?_⟩
     ·have:(3:Nat)=0:=e;omega
     ·have:(3:Nat)=1:=e;omega
     ·have:(3:Nat)=2:=e;omega
     ·unfold zmu
      rw [if_neg H,if_neg J,if_pos h2,if_neg (by show ¬(3:Nat)=0;omega),if_neg (by show ¬(3:Nat)=1;omega),if_neg (by show ¬(3:Nat)=2;omega)];exact Nat.succ_pos _
    ·cases hs
   ·cases hs
 ·rw [if_neg h2] at hs
  cases hs
theorem QdP{c c':ZC}(hs:VR zs d c=.inl c'):Qs zs d c=.inl c'/\zmu zs c'<zmu zs c:=by
 unfold VR at hs;exact qJ
theorem Vp{c c':ZC}(hzl:zs.length<=65536)(h:ZOK zs d c)(hb:c.bad=false)(hs:Qs zs d c=.inl c'):VR zs d c=.inl c':=by
 unfold VR;rw [hs];exact if_pos (Vn hzl h hb hs).2
theorem VA{c cf:ZC}{k:Int}(hs:Qs zs d c=.inr (k,cf)):VR zs d c=.inr (k,cf):=by
 unfold VR;rw [hs]
theorem QdQ(z q:Nat)(c:ZC)(hb:c.bad=false)(h:c.ph=2):Qa4 (VZ z q) c=Qay q (Qc7 z) c.ic.st:=by
 unfold Qa4 VZ Qay;rw [if_neg gc,if_neg dk,if_neg dk,if_pos h];exact qK
end
section
variable{x zs:List Int}{s K:Nat}{c c':IC}
def Qjk(st:Nat):Nat:=if st=13\/st=14 then 129 else if st=15 then 258 else 0
structure IBd(K:Nat)(c:IC):Prop where
 o:Qh c.u
 t:Qh c.t
 bd:c.u.length+Qjk c.st<=K+129*c.lc.i
theorem QaJ{y:List Int}(hx:Qh x)(hy:Qh y):Qh (x++y):=fun v hv=>by
 rcases List.mem_append.1 hv with h|h
 ·exact hx v h
 ·exact hy v h
theorem Qbg(n:Nat)(hx:Qh x):Qh (lastN n x):=fun v hv=>hx v (List.mem_of_mem_drop hv)
theorem Qg9(hx:Qh x)(dist:Nat):∀n,Qh (QM x dist n):=by
 intro n;induction n with
 | zero=>exact hx
 | succ n ih=>
  rw [QM];exact QaJ ih (fun v hv=>by
   simp only [List.mem_singleton] at hv;subst hv;exact ih.getD _)
theorem QlO(hx:Qh x)(dist n:Nat):Qh (VG x dist n):=fun v hv=>Qg9 hx dist n v (List.mem_of_mem_drop hv)
theorem QdS(hz:Qh zs)(hW:Qag zs c)(h:IBd K c)(h15:c.st<=15)(hs:Qq s zs c=.inl c'):IBd K c':=by
 obtain ⟨ho,ht,hb⟩:=h;unfold Qq at hs;by_cases U:c.st<=5
 ·rw [if_pos U] at hs
  have N:Qjk c.st=0:=qL;cases hl:Qx zs c.lc with
  | inl l=>
   rw [hl] at hs;injection hs with hs;subst hs;obtain ⟨hL,d⟩:=hW.lens dk;have hm:=Qez dk hL hl;have a:=(VY hL dk hl).s6;refine ⟨ho,ht,?_⟩;show c.u.length+Qjk l.st<=K+129*l.i;have O:Qjk l.st=0:=qL;omega
  | inr x=>rw [hl] at hs;cases hs
 rw [if_neg U] at hs;by_cases h6:c.st=6
 ·rw [if_pos h6] at hs
  unfold QU at hs;injection hs with hs;subst hs;rw [h6] at hb;exact ⟨ho,ht,hb⟩
 rw [if_neg h6] at hs;by_cases h7:c.st=7
 ·rw [if_pos h7] at hs
  rw [h7] at hb;have f:c.u.length+0<=K+129*c.lc.i:=hb;unfold Vf at hs;repeat' (split at hs)
  all_goals first|(cases hs;done)|(injection hs with hs;subst hs;refine ⟨ho,ht,?_⟩)
  ·show c.u.length+0<=K+129*((c.lc.i+3+7)/8*8);omega
  ·show c.u.length+0<=K+129*(c.lc.i+3);omega
  ·show c.u.length+0<=K+129*(c.lc.i+3);omega
 rw [if_neg h7] at hs;by_cases h8:c.st=8
 ·rw [if_pos h8] at hs
  rw [h8] at hb;unfold QW at hs;split at hs
  ·injection hs with hs;subst hs;exact ⟨ho,ht,hb⟩
  ·injection hs with hs;subst hs;exact ⟨ho,ht,hb⟩
 rw [if_neg h8] at hs;by_cases h9:c.st=9
 ·rw [if_pos h9] at hs
  rw [h9] at hb;have f:c.u.length+0<=K+129*c.lc.i:=hb;unfold Vk at hs;repeat' (split at hs)
  all_goals first|(cases hs;done)|(injection hs with hs;subst hs;refine ⟨ho,ht,?_⟩)
  show c.u.length+0<=K+129*(c.lc.i+32);omega
 rw [if_neg h9] at hs;by_cases u:c.st=10
 ·rw [if_pos u] at hs
  have f:c.u.length+0<=K+129*c.lc.i:=by rw [u] at hb;exact hb
  unfold Qw at hs;repeat' (split at hs)
  all_goals first|(cases hs;done)|(injection hs with hs;subst hs)
  ·exact ⟨ho,ht,f⟩
  ·have ah:Qh ((zs.drop (c.lc.i/8)).take (stN zs c)):=fun v hv=>hz v (List.mem_of_mem_drop (List.mem_of_mem_take hv))
   refine ⟨QaJ ho ah,Qbg s (QaJ ht ah),?_⟩;show (c.u++(zs.drop (c.lc.i/8)).take (stN zs c)).length+Qjk c.st<=K+129*(c.lc.i+8*stN zs c);rw [List.length_append,List.length_take,u];show c.u.length+min (stN zs c) _+0<=_;omega
 rw [if_neg u] at hs;by_cases D:c.st=11
 ·rw [if_pos D] at hs
  rw [D] at hb;unfold QP at hs;injection hs with hs;subst hs;exact ⟨ho,ht,hb⟩
 rw [if_neg D] at hs;by_cases o:c.st=12
 ·rw [if_pos o] at hs
  have E:=@QcH c.ul (field (bnum zs) c.lc.i (Nat.min (8*zs.length-c.lc.i) 15)) (Nat.min (8*zs.length-c.lc.i) 15);unfold VS at hs;generalize nx3 c.ul (field (bnum zs) c.lc.i (Nat.min (8*zs.length-c.lc.i) 15)) (Nat.min (8*zs.length-c.lc.i) 15)=X at*;obtain ⟨k3,S,l⟩:=X;dsimp only at hs E;split at hs
  ·rename_i J
   have hl:=E J;split at hs
   ·rename_i hS
    split at hs
    ·cases hs
    ·injection hs with hs
     subst hs;have ah:Qh [(S:Int)]:=fun v hv=>by simp only [List.mem_singleton] at hv;omega
     refine ⟨QaJ ho ah,Qbg s (QaJ ht ah),?_⟩;show (c.u++[(S:Int)]).length+Qjk c.st<=K+129*(c.lc.i+l);rw [List.length_append,o];show c.u.length+1+0<=_;omega
   ·split at hs
    ·injection hs with hs
     subst hs;refine ⟨ho,ht,?_⟩;show c.u.length+0<=K+129*(c.lc.i+l);omega
    ·split at hs
     ·cases hs
     ·injection hs with hs
      subst hs;refine ⟨ho,ht,?_⟩;show c.u.length+129<=K+129*(c.lc.i+l);omega
  ·exact eR
 rw [if_neg o] at hs;by_cases j:c.st=13
 ·rw [if_pos j] at hs
  have f:c.u.length+129<=K+129*c.lc.i:=by rw [j] at hb;exact hb
  unfold Vj at hs;split at hs
  ·injection hs with hs
   subst hs;refine ⟨ho,ht,?_⟩;show c.u.length+129<=K+129*(c.lc.i+c.extra);omega
  ·cases hs
 rw [if_neg j] at hs;by_cases z:c.st=14
 ·rw [if_pos z] at hs
  have f:c.u.length+129<=K+129*c.lc.i:=by rw [z] at hb;exact hb
  have E:=@QcH c.ud (field (bnum zs) c.lc.i (Nat.min (8*zs.length-c.lc.i) 15)) (Nat.min (8*zs.length-c.lc.i) 15);unfold VU at hs;generalize nx3 c.ud (field (bnum zs) c.lc.i (Nat.min (8*zs.length-c.lc.i) 15)) (Nat.min (8*zs.length-c.lc.i) 15)=X at*;obtain ⟨k3,S,l⟩:=X;dsimp only at hs E;split at hs
  ·rename_i J
   have hl:=E J;split at hs
   ·cases hs
   ·injection hs with hs
    subst hs;refine ⟨ho,ht,?_⟩;show c.u.length+258<=K+129*(c.lc.i+l);omega
  ·exact eR
 rw [if_neg z] at hs;have C:c.st=15:=dk;have f:c.u.length+258<=K+129*c.lc.i:=by rw [C] at hb;exact hb
 have aL:=(hW.ln (.inr C)).2;unfold QL at hs;repeat' (split at hs)
 all_goals first|(cases hs;done)|(injection hs with hs;subst hs)
 refine ⟨QaJ ho (QlO ht _ _),Qbg s (Qg9 ht _ _),?_⟩;show (c.u++VG c.t _ c.len).length+0<=K+129*(c.lc.i+c.extra);rw [List.length_append,Qam];omega
theorem RTo.bd(hz:Qh zs)(hzl:zs.length<=65536){n:Nat}(h:RTo s zs n c c')(hW:Qag zs c)(hb:IBd K c):IBd K c'/\Qag zs c':=by
 induction n generalizing c with
 | zero=>
  have e:c=c':=h;subst e;exact ⟨hb,hW⟩
 | succ n ih=>
  obtain ⟨a,x,hx,h2⟩:=h;exact ih h2 (Qa3 hW a hzl hx).1 (QdS hz hW hb a hx)
theorem Qf0{d:List Int}(hz:Qh zs)(hd:Qh d)(hl:zs.length<=63):∀s c,QfA zs d s c->c.st=16->c.u.length<=65536/\Qh c.u:=by
 rintro s c ⟨i,t,n,hS,hT⟩ R;obtain ⟨J,_,_,I⟩:=hS;have hi:i<=8*zs.length/\Qh t:=by
  rcases I with ⟨_,rfl,rfl⟩|⟨_,rfl,rfl,p,_⟩
  ·exact ⟨dk,Qbg s (fun v hv=>d9)⟩
  ·exact ⟨dk,Qbg s hd⟩
 obtain ⟨hb,hW⟩:=hT.bd (K:=0) hz dk (QdA zs t i hi.1) ⟨fun v hv=>d9,hi.2,by show 0+0<=_;omega⟩;have h2:=hb.bd;have h3:=hW.le;exact ⟨dk,hb.o⟩
end
section
variable{q p hB B z cb s:Nat}{zs d:List Int}{bo:Option Addr}{w0 W W':World}{c:ZC}
theorem Qmn(args:Array Value)(W:World):Sem.run prog (callFunc 74 args) W=.ok (.enter 74 args) W:=by kernel_rfl
theorem Ql6(args:Array Value)(W:World):Sem.run prog (callFunc 108 args) W=.ok (.enter 108 args) W:=by kernel_rfl
theorem QmF(args:Array Value)(W:World):Sem.run prog (callFunc 75 args) W=.ok (.enter 75 args) W:=by kernel_rfl
structure QeO(z q p hB B:Nat)(bo:Option Addr)(cb:Nat)(d:List Int)(w0:World):Prop where
 oct:Qh d
 len:d.length<=65536
 fit:d.length<=cb
 most:cb<=maxLen
 row:Q1 w0 bo d
 low:∀ad,bo=some ad->ad.block<B
 glob:QfE w0
 gB:3<=B
 Bw:B<=w0.heap.size
 bp:B<=p
 bq:B<=q
 bz:B<=z
 pq:q≠p
 zp:z≠p
 zq:z≠q
 hq:hB≠q
 hz:hB≠z
 gh:3<=hB
structure Qat(z q p hB B:Nat)(bo:Option Addr)(cb:Nat)(zs d:List Int)(w0 W:World)(c:ZC):Prop where
 bel:Below B w0 W
 ok:ZOK zs d c
 lo:c.ph<=1->(∃n1,Qak W q p n1 (Qc7 z))/\Rd W p hB zs c.ic.lc.i/\(∃x:Int,QaK W z q (.slice bo d.length cb) x/\(c.ph=1->x=(c.sz:Nat)))/\c.ic.u=[]/\hB<W.heap.size
 hi:2<=c.ph->W.cell? ⟨z,0,none⟩=some (.pointer (some ⟨q,0,none⟩))/\∃g KH o,KH z=some o/\Q2 KH q p hB g c.sz B zs (Qc7 z) W c.ic
theorem Q2.kz{KH:Nat->Option Obj}{g:Nat}{aft:Value}{w:World}{c:IC}(h:Q2 KH q p hB g s B zs aft w c){o:Obj}(hk:KH z=some o):w.heap[z]?=some o:=by
 obtain ⟨T,P,_⟩:=h.ex;exact (P.kz z o hk).2
theorem Qat.cell(hF:QeO z q p hB B bo cb d w0)(h:Qat z q p hB B bo cb zs d w0 W c):(∃old,W.cell? ⟨q,1,none⟩=some old)/\W.frozen? ⟨q,1,none⟩=false/\W.cell? ⟨1,0,none⟩=some (.iface 257 (.agg #[.pointer (some ⟨3,131,none⟩)])):=by
 refine ⟨?_,?_,(hF.glob.below h.bel hF.gB).g0⟩
 ·rcases Nat.lt_or_ge c.ph 2 with J|J
  ·obtain ⟨⟨Z,hN⟩,_⟩:=h.lo dk
   exact ⟨_,hN.c1⟩
  ·obtain ⟨_,g,n,o,_,hM⟩:=h.hi J
   exact hM.lm.c1
 ·rcases Nat.lt_or_ge c.ph 2 with J|J
  ·obtain ⟨⟨Z,hN⟩,_⟩:=h.lo dk
   exact hN.f 1
  ·obtain ⟨_,g,n,o,_,hM⟩:=h.hi J
   exact hM.lm.free 1
theorem Qat.set(hF:QeO z q p hB B bo cb d w0)(h:Qat z q p hB B bo cb zs d w0 W c)(v:Value):Qat z q p hB B bo cb zs d w0 (W.setCell ⟨q,1,none⟩ v) c:=by
 have O:=Qf W ⟨q,1,none⟩ v;refine ⟨h.bel.setCell (p:=⟨q,1,none⟩) hF.bq v,h.ok,fun h1=>?_,fun h1=>?_⟩
 ·obtain ⟨⟨Z,hN⟩,P,⟨x,hZ,hx⟩,ho,hb⟩:=h.lo h1
  have al:=World.block_lt_of_cell? W _ hZ.z0;exact ⟨⟨v,hN.set1 v⟩,P.grown O ld lf,⟨x,hZ.same (O.block z al iM),hx⟩,ho,Nat.lt_of_lt_of_le hb O.size⟩
 ·obtain ⟨I,g,n,o,hk,hM⟩:=h.hi h1
  exact ⟨O.cell I iM,g,n,o,hk,hM.next v⟩
theorem Qat.below(hF:QeO z q p hB B bo cb d w0)(h:Qat z q p hB B bo cb zs d w0 W c)(hb:Below W.heap.size W W'):Qat z q p hB B bo cb zs d w0 W' c:=by
 have b:B<=W.heap.size:=Nat.le_trans hF.Bw h.bel.size;refine ⟨h.bel.trans (hb.mono b),h.ok,fun h1=>?_,fun h1=>?_⟩
 ·obtain ⟨⟨Z,hN⟩,P,⟨x,hZ,hx⟩,ho,a⟩:=h.lo h1
  refine iN ?_;intro al y;exact ⟨⟨Z,hN.same (hb.block q y)⟩,P.below hb,⟨x,hZ.same (hb.block z al),hx⟩,ho,Nat.lt_of_lt_of_le a hb.size⟩
 ·obtain ⟨I,g,n,o,hk,hM⟩:=h.hi h1
  have al:=World.block_lt_of_cell? W _ I;exact ⟨(hb.cell (p:=⟨z,0,none⟩) al).trans I,g,n,o,hk,hM.below hb⟩
theorem Qat.lo_went(hF:QeO z q p hB B bo cb d w0)(h:Qat z q p hB B bo cb zs d w0 W c)(h1:c.ph<=1)(hg:W.grownBy W' (some p)){j:Nat}(hR:Rd W' p hB zs j)(c':ZC)(hok:ZOK zs d c')(hph:c'.ph=c.ph)(hsz:c.ph=1->c'.sz=c.sz)(ho:c'.ic.u=[])(hj:c'.ic.lc.i=j):Qat z q p hB B bo cb zs d w0 W' c':=by
 have b:B<=W.heap.size:=Nat.le_trans hF.Bw h.bel.size;refine ⟨h.bel.grown hg b (fun k e=>gi),hok,fun h2=>?_,fun h2=>dk⟩;obtain ⟨⟨Z,hN⟩,_,⟨x,hZ,hx⟩,_,a⟩:=h.lo h1;refine iN ?_;intro al y;exact ⟨⟨Z,hN.same (hg.block q y (by simpa using hF.pq))⟩,by rw [hj];exact hR,⟨x,hZ.same (hg.block z al iP),fun e=>by rw [hx dk,hsz dk]⟩,ho,Nat.lt_of_lt_of_le a hg.size⟩
theorem Qat.begun{n1:Value}{i:Nat}{t:List Int}(hF:QeO z q p hB B bo cb d w0)(hb:Below B w0 W)(hR:Rd W p hB zs i)(hz0:W.cell? ⟨z,0,none⟩=some (.pointer (some ⟨q,0,none⟩)))(hbB:hB<W.heap.size)(hqW:q<W.heap.size)(hs:0<s/\s<=32768)(hP:Qbl q p s n1 (Qc7 z) t (.returned (Qay q (Qc7 z) 7)) W W')(hok:ZOK zs d ⟨2,s,icA i t,false⟩):Qat z q p hB B bo cb zs d w0 W' ⟨2,s,icA i t,false⟩:=by
 obtain ⟨g,_,hN,hT,H,I,Y⟩:=hP;have al:z<W.heap.size:=World.block_lt_of_cell? W _ hz0;have b:B<=W.heap.size:=Nat.le_trans hF.Bw hb.size;have f:=hb.grown Y b (fun k e=>iQ);have ak:z<W'.heap.size:=Nat.lt_of_lt_of_le al Y.size;have j:=hR.lt;have c:=hF.bq;refine ⟨f,hok,fun h=>absurd h (by show ¬(2:Nat)<=1;omega),fun _=>⟨Y.cell hz0 iM,g,fun k=>if k=z then W'.heap[z]? else none,W'.heap[z],by simp [ak],?_⟩⟩;have a:g≠q:=dk;exact hN.mem hF.pq hF.hq a dk dk hF.gB hF.bq hF.bp dk hF.gh (Nat.lt_of_lt_of_le hbB Y.size) hs (hR.grown Y ld lf) hT (hF.glob.below f hF.gB) (fun k o e=>by
  by_cases hk:k=z
  ·subst hk
   rw [if_pos rfl] at e;exact ⟨e,hF.zq,hF.zp,dk,fun e=>hF.hz e.symm⟩
  ·rw [if_neg hk] at e
   cases e)
end
section
theorem Q3.ok{C:Type}{now:C->Option (Nat×Array Value)}{Mem:World->C->Prop}{B:Nat}{r:C⊕(Int×C)}{c':C}{w w':World}{v:Value}(hr:r=.inl c')(hv:v=Qa4 now c')(hM:Mem w' c')(hb:Below B w w'):Q3 now Mem B r (.returned (.tuple #[v,.nilIface])) w w':=by
 subst hr;refine ⟨fun c h=>?_,fun k cf h=>ep⟩;injection h with h;subst h;exact ⟨by rw [hv],hM,hb⟩
theorem Q3.no{C:Type}{now:C->Option (Nat×Array Value)}{Mem:World->C->Prop}{B:Nat}{r:C⊕(Int×C)}{cf:C}{k:Int}{w w':World}{v:Value}(hr:r=.inr (k,cf))(hM:Mem w' cf)(hb:Below B w w'):Q3 now Mem B r (.returned (.tuple #[v,flt k])) w w':=by
 subst hr;refine ⟨fun c h=>ep,fun k cf h=>?_⟩;injection h with h;injection h with h1 h2;subst h1;subst h2;exact ⟨v,rfl,hM,hb⟩
theorem ZOK.ofbad{zs d:List Int}{c:ZC}(h:c.ph<=3)(hb:c.bad=true):ZOK zs d c:=⟨h,fun e=>ly,fun e=>ly,fun e=>ly⟩
section
variable {z q p hB B : Nat} {bo : Option Addr} {cb : Nat} {zs d : List Int} {w0 W : World} {c : ZC}
theorem Qpz(hF:QeO z q p hB B bo cb d w0)(hz:Qh zs)(hzl:zs.length<=65536)(hM:Qat z q p hB B bo cb zs d w0 W c)(hb:c.bad=false)(h0:c.ph=0):Calls prog 74 #[.pointer (some ⟨z,0,none⟩)] W fun e W'=>Q3 (VZ z q) (Qat z q p hB B bo cb zs d w0) B (VR zs d c) e W W':=by
 have b:B<=W.heap.size:=Nat.le_trans hF.Bw hM.bel.size;obtain ⟨⟨Z,hN⟩,P,⟨x,hZ,_⟩,ho,a⟩:=hM.lo dk;refine iN ?_;intro al y;by_cases M:c.ic.lc.i+16<=8*zs.length
 ·by_cases l:QbD (field (bnum zs) c.ic.lc.i 16)=true
  ·have E:Qs zs d c=.inr (3,⟨0,0,Vl c.ic (c.ic.lc.i+16),true⟩):=by unfold Qs;rw [if_pos h0,if_pos M,if_pos l]
   refine Calls.mono (Qoi z q p hB zs _ W hZ.z0 hN.c0 P hz hzl M l) ?_;rintro e W' ⟨rfl,j,O⟩;exact .no (VA E) (hM.lo_went hF dk O j _ (.ofbad (by show (0:Nat)<=3;omega) rfl) h0.symm (fun e=>dk) ho rfl) ((Below.refl _ _).grown O b (fun k e=>gi))
  ·have m:QbD (field (bnum zs) c.ic.lc.i 16)=false:=by simpa using l
   by_cases I:Qcg (field (bnum zs) c.ic.lc.i 16)=true
   ·have E:Qs zs d c=.inl ⟨1,zsz (field (bnum zs) c.ic.lc.i 16),icA (c.ic.lc.i+16) [],false⟩:=by unfold Qs;rw [if_pos h0,if_pos M,if_neg l,if_pos I]
    refine Calls.mono (Qmh z q p hB zs _ _ x W hZ hF.zp hN.c0 P hz hzl M m I) ?_;rintro e W' ⟨rfl,w1,j,O,rfl⟩;refine r9 ?_;intro A ag aj;have ah:=aj.setCell (p:=⟨z,2,none⟩) hF.bz (.int .i64 (zsz (field (bnum zs) c.ic.lc.i 16):Nat));have r:=hZ.same<|O.block z al iP
    have N1:=hN.same<|O.block q y (by simpa using hF.pq)
    refine .ok (Vp hzl hM.ok hb E) (by unfold Qa4 VZ QkR;simp) ⟨hM.bel.trans ah,A.1,fun _=>⟨⟨Z,N1.same (ag.block q (Nat.lt_of_lt_of_le y O.size) (by simpa using fun e=>hF.zq e.symm))⟩,j.grown ag sa (by simpa using hF.hz),⟨_,r.size _,fun _=>rfl⟩,rfl,Nat.lt_of_lt_of_le a (Nat.le_trans O.size ag.size)⟩,fun e=>?_⟩ ah;have:(2:Nat)<=1:=e;omega
   ·have o:Qcg (field (bnum zs) c.ic.lc.i 16)=false:=f6
    have E:Qs zs d c=.inl ⟨2,zsz (field (bnum zs) c.ic.lc.i 16),icA (c.ic.lc.i+16) (lastN (zsz (field (bnum zs) c.ic.lc.i 16)) []),false⟩:=by unfold Qs;rw [if_pos h0,if_pos M,if_neg l,if_neg I]
    refine Calls.mono (Qkn z q p hB zs _ _ Z (Qc7 z) x W hZ hN hF.zp hF.zq hF.pq P hz hzl M m o) ?_;rintro e W' ⟨rfl,w1,j,O,hP⟩;refine r9 ?_;intro A ag aj;have ah:=(aj.setCell (p:=⟨z,2,none⟩) hF.bz (.int .i64 (zsz (field (bnum zs) c.ic.lc.i 16):Nat))).drew;have r:=hZ.same<|O.block z al iP
    have aw:Below B W W':=sb;have af:=(r.size (zsz (field (bnum zs) c.ic.lc.i 16):Nat)).z0;refine .ok (Vp hzl hM.ok hb E) lz (Qat.begun hF (hM.bel.trans ah) ((j.grown ag sa (by simpa using hF.hz)).below (Below.refl _ _).drew) af (Nat.lt_of_lt_of_le a (Nat.le_trans O.size ag.size)) (Nat.lt_of_lt_of_le y (Nat.le_trans O.size ag.size)) (QhJ m) hP A.1) aw
 ·have E:Qs zs d c=.inr (2,c):=by unfold Qs;rw [if_pos h0,if_neg M]
  refine Calls.mono (Qpq z q p hB zs _ W hZ.z0 hN.c0 P hzl M) ?_;exact sc
theorem QoI(hF:QeO z q p hB B bo cb d w0)(hz:Qh zs)(hzl:zs.length<=65536)(hM:Qat z q p hB B bo cb zs d w0 W c)(hb:c.bad=false)(h1:c.ph=1):Calls prog 108 #[.pointer (some ⟨z,0,none⟩)] W fun e W'=>Q3 (VZ z q) (Qat z q p hB B bo cb zs d w0) B (VR zs d c) e W W':=by
 have b:B<=W.heap.size:=Nat.le_trans hF.Bw hM.bel.size;have H:¬c.ph=0:=dk;obtain ⟨⟨Z,hN⟩,P,⟨x,hZ,hx⟩,ho,a⟩:=hM.lo dk;rw [hx h1] at hZ;obtain ⟨_,_,m,l,_⟩:=hM.ok.p1 hb h1;refine iN ?_;intro al y;have L:Q1 W bo d:=hF.row.beneath hM.bel (fun ad e _=>hF.low ad e);have h:∀ad,bo=some ad->ad.block≠p/\ad.block<W.heap.size:=fun ad e=>by have:=hF.low ad e;have:=hF.bp;exact ⟨dk,dk⟩
 by_cases M:c.ic.lc.i+32<=8*zs.length
 ·by_cases G:d=[]\/((rb4 (field (bnum zs) c.ic.lc.i 32):Nat):Int)≠Adl.adl d
  ·have E:Qs zs d c=.inr (5,⟨1,c.sz,Vl c.ic (c.ic.lc.i+32),true⟩):=by unfold Qs;rw [if_neg H,if_pos h1,if_pos M,if_pos G]
   refine Calls.mono (Qj0 z q p hB zs d _ cb bo _ W hZ hF.zp hN.c0 P hz hzl M L hF.oct hF.fit hF.len (fun ad e=>(h ad e).1) G) ?_;rintro e W' ⟨rfl,j,O⟩;exact .no (VA E) (hM.lo_went hF dk O j _ (.ofbad (by show (1:Nat)<=3;omega) rfl) h1.symm (fun e=>rfl) ho rfl) ((Below.refl _ _).grown O b (fun k e=>gi))
  ·have E:Qs zs d c=.inl ⟨2,c.sz,icA (c.ic.lc.i+32) (lastN c.sz d),false⟩:=by unfold Qs;rw [if_neg H,if_pos h1,if_pos M,if_neg G]
   rw [not_or] at G;have F:((rb4 (field (bnum zs) c.ic.lc.i 32):Nat):Int)=Adl.adl d:=by simpa using G.2
   have C:0<c.sz/\c.sz<=32768:=by rw [m];exact QhJ l
   refine Calls.mono (QjY z q p hB c.sz zs d _ cb bo Z (Qc7 z) W hZ hN hF.zp hF.zq hF.pq P hz hzl M C.1 C.2 L hF.oct hF.fit hF.most hF.len h G.1 F) ?_;rintro e W' ⟨rfl,w1,j,O,hP⟩;have A:=Vn hzl hM.ok hb E;have aj:Below B W w1:=(Below.refl _ _).grown O b (fun k e=>gi);have ah:=aj.drew;have r:=hZ.same<|O.block z al iP
   have aw:Below B W W':=sb;exact .ok (Vp hzl hM.ok hb E) lz (Qat.begun hF (hM.bel.trans ah) (j.below (Below.refl _ _).drew) r.z0 (Nat.lt_of_lt_of_le a O.size) (Nat.lt_of_lt_of_le y O.size) C hP A.1) aw
 ·have E:Qs zs d c=.inr (2,c):=by unfold Qs;rw [if_neg H,if_pos h1,if_neg M]
  refine Calls.mono (Qkh z q p hB zs _ W hZ.z0 hN.c0 P hzl M) ?_;exact sc
theorem Qat.inf{W':World}{KH:Nat->Option Obj}{g:Nat}{o:Obj}(hM:Qat z q p hB B bo cb zs d w0 W c)(hz0:W.cell? ⟨z,0,none⟩=some (.pointer (some ⟨q,0,none⟩)))(hk:KH z=some o)(hI:Q2 KH q p hB g c.sz B zs (Qc7 z) W c.ic)(hb:Below B W W')(c':ZC)(hsz:c'.sz=c.sz)(hph:2<=c'.ph)(hI':Q2 KH q p hB g c.sz B zs (Qc7 z) W' c'.ic)(hok:ZOK zs d c'):Qat z q p hB B bo cb zs d w0 W' c':=by
 refine ⟨hM.bel.trans hb,hok,fun h=>dk,fun _=>⟨?_,g,KH,o,hk,by rw [hsz];exact hI'⟩⟩;have e:W'.heap[z]?=W.heap[z]?:=by rw [hI'.kz hk,hI.kz hk]
 exact (World.cell?_of_block (w:=W) (a:=⟨z,0,none⟩) e).trans hz0
theorem Qre(hF:QeO z q p hB B bo cb d w0)(hz:Qh zs)(hzl:zs.length<=65536)(hM:Qat z q p hB B bo cb zs d w0 W c)(hb:c.bad=false)(h2:c.ph=2)(h15:c.ic.st<=15):Calls prog (ifn c.ic.st) #[.pointer (some ⟨q,0,none⟩)] W fun e W'=>Q3 (VZ z q) (Qat z q p hB B bo cb zs d w0) B (VR zs d c) e W W':=by
 have H:¬c.ph=0:=dk;have J:¬c.ph=1:=dk;obtain ⟨af,g,n,o,hk,hI⟩:=hM.hi dk;obtain ⟨hW,_⟩:=hM.ok.p2 hb h2;refine Calls.mono (QeR q p hB g c.sz B zs (Qc7 z) c.ic W hI hW h15 hz hzl) ?_;rintro e W' ⟨hy,j⟩;cases hi:Qq c.sz zs c.ic with
 | inl y=>
  obtain ⟨rfl,h,f⟩:=hy y hi;have E:Qs zs d c=.inl ⟨2,c.sz,y,false⟩:=sd;exact .ok (Vp hzl hM.ok hb E) lz (hM.inf af hk hI f _ rfl (Nat.le_refl _) h (Vn hzl hM.ok hb E).1) f
 | inr kc=>
  obtain ⟨k,y⟩:=kc;obtain ⟨v,rfl,h,f⟩:=j k y hi;have E:Qs zs d c=.inr (k,if k=2 then c else ⟨2,c.sz,y,true⟩):=sd;by_cases a0:k=2
  ·rw [if_pos a0] at E
   subst a0;have e2:=QkF hW hi;rw [e2] at h;exact .no (VA E) (hM.inf af hk hI f c rfl dk h hM.ok) f
  ·rw [if_neg a0] at E
   exact .no (VA E) (hM.inf af hk hI f ⟨2,c.sz,y,true⟩ rfl (Nat.le_refl _) h (.ofbad eV rfl)) f
theorem Qqv(hF:QeO z q p hB B bo cb d w0)(hz:Qh zs)(hzl:zs.length<=65536)(hend:∀s c,QfA zs d s c->c.st=16->c.u.length<=65536/\Qh c.u)(hM:Qat z q p hB B bo cb zs d w0 W c)(hb:c.bad=false)(h2:c.ph=2)(h15:¬c.ic.st<=15):Calls prog 75 #[.pointer (some ⟨z,0,none⟩)] W fun e W'=>Q3 (VZ z q) (Qat z q p hB B bo cb zs d w0) B (VR zs d c) e W W':=by
 have H:¬c.ph=0:=dk;have J:¬c.ph=1:=dk;obtain ⟨af,g,n,o,hk,hI⟩:=hM.hi dk;obtain ⟨hW,a⟩:=hM.ok.p2 hb h2;have R:c.ic.st=16:=iV;obtain ⟨a5,aL⟩:=hend _ _ a R;by_cases M:(c.ic.lc.i+7)/8*8+32<=8*zs.length
 ·refine Calls.mono (Qkj z q p hB g c.sz B zs (Qc7 z) c.ic W hI af hF.zp hz hzl M a5 aL) ?_
  rintro e W' ⟨rfl,h,f⟩;by_cases I:((rb4 (field (bnum zs) ((c.ic.lc.i+7)/8*8) 32):Nat):Int)=Adl.adl c.ic.u
  ·have E:Qs zs d c=.inl ⟨3,c.sz,Vl c.ic ((c.ic.lc.i+7)/8*8+32),false⟩:=by unfold Qs;rw [if_neg H,if_neg J,if_pos h2,if_neg h15,if_pos M,if_pos I]
   rw [if_pos I];exact .ok (Vp hzl hM.ok hb E) (by unfold Qa4 VZ;simp) (hM.inf af hk hI f _ rfl eV h (Vn hzl hM.ok hb E).1) f
  ·have E:Qs zs d c=.inr (4,⟨2,c.sz,Vl c.ic ((c.ic.lc.i+7)/8*8+32),true⟩):=by unfold Qs;rw [if_neg H,if_neg J,if_pos h2,if_neg h15,if_pos M,if_neg I]
   rw [if_neg I];exact .no (VA E) (hM.inf af hk hI f ⟨2,c.sz,Vl c.ic ((c.ic.lc.i+7)/8*8+32),true⟩ rfl (Nat.le_refl _) h (.ofbad eV rfl)) f
 ·have E:Qs zs d c=.inr (2,⟨2,c.sz,Vl c.ic ((c.ic.lc.i+7)/8*8),true⟩):=by unfold Qs;rw [if_neg H,if_neg J,if_pos h2,if_neg h15,if_neg M]
  refine Calls.mono (Qmi z q p hB g c.sz B zs (Qc7 z) c.ic W hI af hF.zp hzl M) ?_;rintro e W' ⟨rfl,h,f⟩;exact .no (VA E) (hM.inf af hk hI f ⟨2,c.sz,Vl c.ic ((c.ic.lc.i+7)/8*8),true⟩ rfl (Nat.le_refl _) h (.ofbad eV rfl)) f
end
theorem QkL{z q:Nat}{c:ZC}{f:Nat}{caps:Array Value}(h:VZ z q c=some (f,caps)):c.bad=false/\((c.ph=0/\f=74/\caps=#[.pointer (some ⟨z,0,none⟩)])\/(c.ph=1/\f=108/\caps=#[.pointer (some ⟨z,0,none⟩)])\/(c.ph=2/\c.ic.st<=15/\f=ifn c.ic.st/\caps=#[.pointer (some ⟨q,0,none⟩)])\/(c.ph=2/\¬c.ic.st<=15/\f=75/\caps=#[.pointer (some ⟨z,0,none⟩)])):=by
 unfold VZ at h;by_cases hb:c.bad=true
 ·rw [if_pos hb] at h;cases h
 rw [if_neg hb] at h;refine ⟨gj,?_⟩;split at h
 ·rename_i H
  injection h with h;injection h with e1 e2;exact .inl ⟨H,e1.symm,e2.symm⟩
 ·split at h
  ·rename_i J
   injection h with h;injection h with e1 e2;exact .inr (.inl ⟨J,e1.symm,e2.symm⟩)
  ·split at h
   ·rename_i h2
    split at h
    ·rename_i a
     injection h with h;injection h with e1 e2;exact .inr (.inr (.inl ⟨h2,a,e1.symm,e2.symm⟩))
    ·rename_i a
     injection h with h;injection h with e1 e2;exact .inr (.inr (.inr ⟨h2,a,e1.symm,e2.symm⟩))
   ·cases h
theorem QjQ{z q p hB B:Nat}{bo:Option Addr}{cb:Nat}{zs d:List Int}{w0:World}(hF:QeO z q p hB B bo cb d w0)(hz:Qh zs)(hzl:zs.length<=65536)(hend:∀s c,QfA zs d s c->c.st=16->c.u.length<=65536/\Qh c.u)(c0:ZC)(w:World)(hM:Qat z q p hB B bo cb zs d w0 w c0)(hn:w.cell? ⟨q,1,none⟩=some (Qa4 (VZ z q) c0)):
  Calls prog 36 #[.pointer (some ⟨q,0,none⟩)] w fun e w'=>Qhl (VZ z q) (VR zs d) (Qat z q p hB B bo cb zs d w0) B c0 w e w':=by
 refine QkN q B (VZ z q) (Qat z q p hB B bo cb zs d w0) (VR zs d) (zmu zs) hF.bq ?_ ?_ ?_ ?_ ?_ ?_ c0 w hM hn
 ·intro c f i h g W
  obtain ⟨_,⟨_,rfl,_⟩|⟨_,rfl,_⟩|⟨_,a,rfl,_⟩|⟨_,_,rfl,_⟩⟩:=QkL h
  ·exact Qmn g W
  ·exact Ql6 g W
  ·exact QnL _ a g W
  ·exact QmF g W
 ·intro W c h
  exact h.cell hF
 ·intro W c v h
  exact h.set hF v
 ·intro W Q c h hb
  exact h.below hF hb
 ·intro W c f i h b
  obtain ⟨hb,⟨H,rfl,rfl⟩|⟨J,rfl,rfl⟩|⟨h2,a,rfl,rfl⟩|⟨h2,a,rfl,rfl⟩⟩:=QkL h
  ·exact Qpz hF hz hzl b hb H
  ·exact QoI hF hz hzl b hb J
  ·exact Qre hF hz hzl b hb h2 a
  ·exact Qqv hF hz hzl hend b hb h2 a
 ·intro c c' _ h
  exact (QdP h).2
end
end Go.Proofs.YtgginbpmebgkcaaGreatDoor
namespace Go.Proofs.YtgginbpmebgkcaaGreatDoor
open Go.RowKit Go.Proofs.Tryz
attribute [local go_sem ↓] Go.wp_at_zero Go.wp_at_succ
set_option linter.unusedVariables false
set_option maxRecDepth 100000
set_option maxHeartbeats 25600000
def zc0:ZC:=⟨0,0,icA 0 [],false⟩
def Qo9(k:Int)(cf:ZC):Int:=if k=1 then ((cf.ic.lc.i/8:Nat):Int) else 0
theorem QfV(zs d:List Int):ZOK zs d zc0:=by
 refine ⟨Nat.zero_le _,fun _ _=>rfl,fun _ e=>?_,fun _ e=>?_⟩
 ·have:(0:Nat)=1:=e;omega
 ·have:(0:Nat)=2:=e;omega
theorem Qat.fin{z q p hB B:Nat}{bo:Option Addr}{cb:Nat}{zs d:List Int}{w0 W:World}{c:ZC}(h:Qat z q p hB B bo cb zs d w0 W c):(∃oa oc,W.cell? ⟨q,30,none⟩=some (.slice oa c.ic.u.length oc)/\Qi 5 B W oa oc c.ic.u)/\W.cell? ⟨q,0,none⟩=some (.pointer (some ⟨p,0,none⟩))/\W.cell? ⟨z,0,none⟩=some (.pointer (some ⟨q,0,none⟩))/\Rd W p hB zs c.ic.lc.i:=by
 rcases Nat.lt_or_ge c.ph 2 with J|J
 ·obtain ⟨⟨Z,hN⟩,P,⟨x,hZ,hx⟩,ho,a⟩:=h.lo dk
  rw [ho];exact ⟨⟨none,0,hN.c30,Qi.nil _ _ _⟩,hN.c0,hZ.z0,P⟩
 ·obtain ⟨I,g,n,o,hk,hM⟩:=h.hi J
  obtain ⟨T,b,_⟩:=hM.ex;obtain ⟨oa,oc,l,R,_⟩:=b.o30;exact ⟨⟨oa,oc,l,R⟩,hM.lm.c0,I,hM.lm.rd⟩
theorem Qmo(ao bo:Option Addr)(cap cb:Nat)(zs d:List Int)(w:World)(hr:Q1 w ao zs)(hnil:ao=none->zs.length=0/\cap=0)(hz:Qh zs)(hl:zs.length<=65536)(hd:Qh d)(hdl:d.length<=65536)(hrd:Q1 w bo d)(hdf:d.length<=cb)(hdc:cb<=maxLen)(hdb:∀ad,bo=some ad->ad.block<w.heap.size)(hG:QfE w)(hend:∀s c,QfA zs d s c->c.st=16->c.u.length<=65536/\Qh c.u):
  Calls prog 11 #[.slice ao zs.length cap,.slice bo d.length cb] w fun e w'=>∃z q k cf,Vo (VZ z q) (VR zs d) zc0 k cf/\QpQ k cf.ic.u (Qo9 k cf) e w w':=by
 have HR:=Qe hr;have W:=Qe hnil;have HZ:=Qe hz;have HD:=Qe hd;have HG:=Qe hG;have ax:=Qe hend;have aw:=Qe hrd;have aH:=Qe hdb;have aq:=Qe<|And.intro hdf hdc
 have H:=hG.sz;have aY:decide ((zs.length:Int) > 65536)=false:=decide_eq_false dk;have b0:Below w.heap.size w (w.alloc (.cells #[.int .i64 0,.slice none 0 0,.int .i64 0] 32)):=(Below.refl _ _).alloc (Nat.le_refl _) _;have B0:=Qe b0;have R0:=Qe<|Qdr w (.int .i64 0) (.slice none 0 0) (.int .i64 0) 32
 have t:(w.alloc (.cells #[.int .i64 0,.slice none 0 0,.int .i64 0] 32)).heap.size=w.heap.size+1:=dr;have NZ:=Qe<|QdW bo d.length cb (w.alloc (.cells #[.int .i64 0,.slice none 0 0,.int .i64 0] 32))
 rw [t] at NZ;clear hr hnil hz hG hrd hdf hdc hdb b0 hd hend;go_enter func11,ntmps11;go_wp2_with fail;refine Calls.mono NZ.u ?_;rintro e w2 ⟨z,q,p,a1,c1,rfl,hZ,hN,hS,hO,N,D,ab,al,an,af,ag,hb⟩;have B2:=Qe<|B0.u.trans (hb.mono dk)
 have R2:=Qe<|R0.u.below hb dk
 have N2:=Qe hN;have Z2:=Qe hZ;have B:=hN.c0;have x:=hZ.z0;have b:=Qe<|And.intro an (And.intro af ag)
 have FD:=Qe<|QiD p a1 ao c1 cap zs (w.heap.size+1) w2 hS hO dk dk an (HR.u.below B2.u) W.u hl
 have aa:q<w2.heap.size:=dk;clear hN hZ hS hO an af ag hb B0 R0 NZ t;go_wp2_with fail;refine Calls.mono FD.u ?_;rintro e w3 ⟨rfl,⟨a2,c2,u,Q,m,j⟩,a0,ah⟩;have Z:w2.heap.size<=w3.heap.size:=ah.size;obtain ⟨a,G,P,ae,A,aj,C⟩:∃a,(∀ad,a2=some ad->ad.block=a)/\a≠p/\a≠q/\a≠z/\w.heap.size<=a/\a<w3.heap.size:=by
  cases a2 with
  | none=>exact ⟨w.heap.size,⟨(fun ad e=>dx),dk,dk,dk,Nat.le_refl _,dk⟩⟩
  | some ad=>
   exact sk
 refine sn ?_;intro L N3 I B3 G3;have F3:QeO z q p a (w.heap.size+1) bo cb d w3:=⟨HD.u,hdl,aq.u.1,aq.u.2,aw.u.below B3.u,fun ad e=>Nat.lt_succ_of_lt (aH.u ad e),G3,dk,dk,N,dk,dk,dk,dk,dk,ae,A,dk⟩;have M3:Qat z q p a (w.heap.size+1) bo cb zs d w3 w3 zc0:=⟨Below.refl _ _,QfV zs d,fun _=>⟨⟨_,N3⟩,L,⟨0,I,fun e=>by have:(0:Nat)=1:=e;omega⟩,rfl,C⟩,fun e=>by have:(2:Nat)<=0:=e;omega⟩;have R3:=Qe<|R2.u.below ah (Nat.lt_succ_self _)
 have aV:z<w3.heap.size:=dk;have r:=Qe<|QjQ F3 HZ.u hl ax.u zc0 w3 M3 (by rw [N3.c1];unfold Qa4 VZ zc0 QdL;simp)
 have K:=I.z0;clear u Q m j a0 ah G L N3 I G3 M3 F3 N2 Z2 B2 R2 b FD B x P ae A aj C;go_wp2_with fail;refine Calls.mono r.u ?_;rintro e w4 ⟨k,cf,rfl,hE,hM,T⟩;have y:=Qe<|B3.u.trans (T.mono (Nat.le_succ _))
 have R4:=Qe<|R3.u.below T (Nat.lt_succ_self _)
 have HE:=Qe hE;obtain ⟨⟨oa,X,l,R⟩,q0,av,O⟩:=hM.fin;have ar:w3.heap.size<=w4.heap.size:=T.size;have S:=Qe R;have V:=Qe<|Qi.based R
 obtain ⟨n,M⟩:=dt cf.ic.u.length;have HN:=Qe M;rw [M] at l;obtain ⟨r0,r1,r2,rf⟩:=R4.u;refine dY ?_;intro aE aC aD;obtain ⟨us,ak⟩:∃us:Nat,cf.ic.lc.i=us:=⟨_,rfl⟩;have ai:w4.cell? ⟨p,2,none⟩=some (.int .i64 (us:Nat)):=by
  obtain ⟨_,_,f,_⟩:=O.src;have:=f.2.2.1;rw [<-ak];exact this
 have a4:us<=524288:=by have:=O.le;omega
 have az:=Qe ak;obtain ⟨U,hU⟩:∃U:Nat,us/8=U:=⟨_,rfl⟩;have ay:((us:Nat):Int).tdiv 8=(U:Int):=by rw [Int.tdiv_eq_ediv_of_nonneg dk,<-hU];omega
 have o:=Qe hU;have a3:wrap64 (U:Int)=(U:Int):=gy;clear hE r B3 R3 T hM R rf M ak O hU K;by_cases au:k=1
 ·subst au
  have E:=Qe<|R4.u.set (.int .i64 1) (.slice oa n X) (.int .i64 (U:Nat))
  refine iX ?_;intro g Y;clear S V;go_upto_region 8 with fail;go_region
  go_wp2_with fail;obtain ⟨⟨y0,F,y2,_⟩,_⟩:=E.u;exact bodyPost_ret (v:=.agg #[.int .i64 1,.slice oa n X,.int .i64 (U:Nat)]) so rfl ⟨z,q,1,cf,HE.u,oa,X,by unfold Qo9;rw [if_pos rfl,HN.u,az.u,o.u],Y.u.below (Below.refl _ _).drew,g.u.drew⟩
 ·have aU:(k != 1)=true:=by simp [au]
  have bm:=Qe au;have E:=Qe<|R4.u.set (.int .i64 k) (.slice oa n X) (.int .i64 0)
  refine iX ?_;intro g Y;clear S V au ay a3 o;go_wp2_with fail;obtain ⟨⟨y0,F,y2,_⟩,_⟩:=E.u;exact bodyPost_ret (v:=.agg #[.int .i64 k,.slice oa n X,.int .i64 0]) so rfl ⟨z,q,k,cf,HE.u,oa,X,by unfold Qo9;rw [if_neg bm.u,HN.u],Y.u,g.u⟩
end Go.Proofs.YtgginbpmebgkcaaGreatDoor
