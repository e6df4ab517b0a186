import Derived.Test.YtgginbpmebgkcaaGreatDoorMAR
import Derived.Test.YtgginbpmebgkcaaGreatDoorMAX
namespace Go.Proofs.YtgginbpmebgkcaaGreatDoor
open Go.RowKit Go.Proofs.Tryz
set_option linter.unusedVariables false
set_option maxRecDepth 100000
set_option maxHeartbeats 25600000
section
variable{zs pr all:List Int}{s D i n st st' i1 i2 i3:Nat}{c cf:IC}{k c1 c2 c3:Int}{r:RR}{b:Bool}
theorem Qem(T:List Int)(c dist:Nat)(hc:c<=T.length)(h:dist<=T.length-c)(i:Nat):QM (T.drop c) dist i=(QM T dist i).drop c:=by
 induction i with
 | zero=>rfl
 | succ i ih=>
  have hl:=VV T dist i;rw [QM,QM,ih,List.drop_append_of_le_length dk,QcK,List.length_drop];congr 3;omega
theorem QiS(n:Nat)(T:List Int)(dist i:Nat)(h:dist<=(lastN n T).length):VG (lastN n T) dist i=VG T dist i:=by
 rw [QC] at h;unfold VG;rw [QC,lastN,Qem T (T.length-n) dist dk dk,List.drop_drop];congr 1;omega
theorem Qiz(n c:Nat)(Y:List Int)(h:c<=Y.length-n):lastN n (Y.drop c)=lastN n Y:=by
 unfold lastN;rw [List.length_drop,List.drop_drop];congr 1;omega
theorem Qib(n:Nat)(T:List Int)(dist i:Nat)(h:dist<=(lastN n T).length):lastN n (QM (lastN n T) dist i)=lastN n (QM T dist i):=by
 rw [QC] at h;have e:QM (lastN n T) dist i=(QM T dist i).drop (T.length-n):=by rw [lastN,Qem T (T.length-n) dist dk dk]
 rw [e];exact Qiz _ _ _ gU
theorem Qmg(T:List Int)(dist i:Nat):QM T dist i=T++VG T dist i:=by
 induction i with
 | zero=>simp [QM,VG]
 | succ i ih=>rw [Qde,<-List.append_assoc,<-ih,QM]
theorem Qcu(r:RR)(p:Bool):(VJ r p).1=r.1:=by unfold VJ;split<;>rfl
theorem Qbf(N i a b:Nat):field N i (a+b)=field N i a+2^a*field N (i+a) b:=by
 unfold field;rw [Nat.pow_add,Nat.mod_mul,Nat.div_div_eq_div_mul,<-Nat.pow_add]
theorem QjD(hz:Qh zs)(i:Nat)(h8:i%8=0)(hi:i+8<=8*zs.length):((field (bnum zs) i 8:Nat):Int)=zs.getD (i/8) 0:=by
 rw [<-Qdl zs hz i 8 dk,h8];have hl:i/8<zs.length:=dk;rw [List.drop_eq_getElem_cons hl,List.getD_eq_getElem?_getD,List.getElem?_eq_getElem hl];have hb:=hz _ (List.getElem_mem hl);unfold field;rw [bnum];simp only [Option.getD_some];generalize zs[i/8]=z at*;have e:(z.toNat+256*bnum (zs.drop (i/8+1)))/2^0%2^8=z.toNat:=by
  rw [Nat.pow_zero,Nat.div_one];omega
 rw [e];omega
structure Vu(s:Nat)(zs:List Int)(pr:List Int)(D:Nat)(k:Int)(cf:IC)(st:Nat)(P:IC->Prop)(r:RR)(all:List Int):Prop where
 len:D<=all.length/\pr.length+all.length<=D+100000
 le:r.1<=8*zs.length
 no:r.2≠0->r.2=k/\k≠1/\cf.u=pr++all.drop D
 yes:r.2=0->∃c,c.st=st/\c.lc.i=r.1/\Qag zs c/\c.u=pr++all.drop D/\c.t=lastN s all/\Vv s zs c k cf/\P c
theorem Vu.off{P P':IC->Prop}(h:Vu s zs pr D k cf st P r all)(h0:r.2≠0):Vu s zs pr D k cf st' P' r all:=
 ⟨h.len,h.le,h.no,fun e=>absurd e h0⟩
theorem Vu.fail{P P':IC->Prop}(h:Vu s zs pr D k cf st P r all)(h0:r.2=0)(h15:st<=15)(i':Nat)(hi:i'<=8*zs.length)(k2:Int)(hk0:k2≠0)(hst:∀c,c.st=st->c.lc.i=r.1->Qag zs c->c.u=pr++all.drop D->c.t=lastN s all->P c->∃c2,Qq s zs c=.inr (k2,c2)):Vu s zs pr D k cf st' P' (i',k2) all:=by
 obtain ⟨c,J,h2,h3,h4,U,h6,h7⟩:=h.yes h0;obtain ⟨c2,E⟩:=hst c J h2 h3 h4 U h7;obtain ⟨e1,e2⟩:=h6.stop dk E;refine ⟨h.len,hi,fun _=>⟨e1.symm,?_,?_⟩,fun e=>absurd e hk0⟩
 ·rcases QO E with h|h|h<;>omega
 ·rw [e2,Qdj E,h4]
theorem Vu.go{P P':IC->Prop}(h:Vu s zs pr D k cf st P r all)(hzl:zs.length<=65536)(h0:r.2=0)(h15:st<=15)(i':Nat)(all':List Int)(hst:∀c,c.st=st->c.lc.i=r.1->Qag zs c->c.u=pr++all.drop D->c.t=lastN s all->P c->∃c2,Qq s zs c=.inl c2/\c2.st=st'/\c2.lc.i=i'/\c2.u=pr++all'.drop D/\c2.t=lastN s all'/\P' c2)(hl:D<=all'.length):Vu s zs pr D k cf st' P' (i',0) all':=by
 obtain ⟨c,J,h2,h3,h4,U,h6,h7⟩:=h.yes h0;obtain ⟨c2,E,a1,a2,q,a4,a5⟩:=hst c J h2 h3 h4 U h7;have hW:=(Qa3 h3 dk hzl E).1;have ho:=hW.u;rw [q,List.length_append,List.length_drop] at ho;refine ⟨⟨hl,dk⟩,by rw [<-a2];exact hW.le,fun e=>absurd rfl e,fun _=>⟨c2,a1,a2,hW,q,a4,h6.step dk E,a5⟩⟩
theorem QnT(h:c.st=6):Qq s zs c=QU c:=by simp [Qq,h]
theorem Qin(h:c.st=7):Qq s zs c=Vf zs c:=by simp [Qq,h]
theorem QiE(h:c.st=8):Qq s zs c=QW c:=by simp [Qq,h]
theorem QiV(h:c.st=9):Qq s zs c=Vk zs c:=by simp [Qq,h]
theorem Qee(h:c.st=10):Qq s zs c=Qw s zs c:=by simp [Qq,h]
theorem Qm4(h:c.st=11):Qq s zs c=QP c:=by simp [Qq,h]
theorem Qmv(h:c.st=12):Qq s zs c=VS s zs c:=by simp [Qq,h]
theorem QgT(h:c.st=13):Qq s zs c=Vj zs c:=by simp [Qq,h]
theorem Qmr(h:c.st=14):Qq s zs c=VU zs c:=by simp [Qq,h]
theorem QgC(h:c.st=15):Qq s zs c=QL s zs c:=by simp [Qq,h]
theorem QG(h:i+n<=8*zs.length):tk zs (i,0) n=((i+n,0),field (bnum zs) i n):=by unfold tk;rw [if_pos rfl,if_pos h]
theorem Vm(h:¬i+n<=8*zs.length):tk zs (i,0) n=((i,2),0):=by unfold tk;rw [if_pos rfl,if_neg h]
theorem Qns{x:Int}(h:x≠0):tk zs (i,x) n=((i,x),0):=QaD h
theorem QoG{P:IC->Prop}(hzl:zs.length<=65536)(h:Vu s zs pr D k cf 7 P (i,0) all){L K:Nat}(e1:tk zs (i,0) 1=((i1,c1),L))(e2:tk zs (i1,c1) 2=((i2,c2),K))(e3:VJ (i2,c2) (decide (K=3))=(i3,c3)):
  L<=1/\K<=3/\i3<=8*zs.length/\((c3≠0/\Vu s zs pr D k cf 7 (fun _=>True) (i3,c3) all)\/(c3=0/\K=0/\Vu s zs pr D k cf 9 (fun c=>c.last=decide (L=1)) ((i3+7)/8*8,0) all)\/(c3=0/\K=1/\Vu s zs pr D k cf 11 (fun c=>c.last=decide (L=1)) (i3,0) all)\/(c3=0/\K=2/\Vu s zs pr D k cf 0 (fun c=>c.last=decide (L=1)) (i3,0) all)):=by
 have ar:=h.le;dsimp only at ar;by_cases hb:i+3<=8*zs.length
 ·rw [QG dk] at e1
  injection e1 with e1 eL;injection e1 with e1 e1'
  subst e1;subst e1';subst eL;rw [QG dk] at e2;injection e2 with e2 eK;injection e2 with e2 e2'
  subst e2;subst e2';subst eK;have Q:=Qbf (bnum zs) i 1 2;have hL:=Q4 (bnum zs) i 1;have hK:=Q4 (bnum zs) (i+1) 2;rw [show (1+2:Nat)=3 from rfl,show (2:Nat)^1=2 from rfl] at Q;rw [show (2:Nat)^1=2 from rfl] at hL;rw [show (2:Nat)^2=4 from rfl] at hK;generalize field (bnum zs) i 1=L at*;generalize field (bnum zs) (i+1) 2=K at*;have q2:field (bnum zs) i 3/2=K:=dk;have q1:field (bnum zs) i 3%2=L:=dk;have a:∀c:IC,c.st=7->c.lc.i=i->Qq s zs c=(if K=0 then .inl {c with st:=9,last:=decide (L=1),lc:={c.lc with i:=(i+3+7)/8*8}} else if K=1 then .inl {c with st:=11,last:=decide (L=1),lc:={c.lc with i:=i+3}} else if K=2 then .inl {c with st:=0,last:=decide (L=1),lc:={c.lc with i:=i+3}} else .inr (3,{c with last:=decide (L=1),lc:={c.lc with i:=i+3}})):=by
   intro c J h2;rw [Qin J];unfold Vf;rw [h2,if_pos hb,q2,q1]
  refine ⟨dk,dk,?_,?_⟩
  ·have:=Qcu (i+1+2,0) (decide (K=3))
   rw [e3] at this;exact fm
  ·have b:K=0\/K=1\/K=2\/K=3:=dk
   rcases b with rfl|rfl|rfl|rfl
   ·rw [show decide ((0:Nat)=3)=false from rfl,Qbb] at e3
    injection e3 with e3 e3'
    subst e3;subst e3'
    refine .inr (.inl ⟨rfl,rfl,?_⟩);refine h.go hzl rfl dk _ all (fun c J h2 h3 h4 h5 h6=>⟨_,(a c J h2).trans (if_pos rfl),rfl,?_,h4,h5,rfl⟩) h.len.1;rfl
   ·rw [show decide ((1:Nat)=3)=false from rfl,Qbb] at e3
    injection e3 with e3 e3'
    subst e3;subst e3'
    refine .inr (.inr (.inl ⟨rfl,rfl,?_⟩));refine h.go hzl rfl dk _ all (fun c J h2 h3 h4 h5 h6=>⟨_,(a c J h2).trans ((if_neg dn).trans (if_pos rfl)),rfl,?_,h4,h5,rfl⟩) h.len.1;rfl
   ·rw [show decide ((2:Nat)=3)=false from rfl,Qbb] at e3
    injection e3 with e3 e3'
    subst e3;subst e3'
    refine .inr (.inr (.inr ⟨rfl,rfl,?_⟩));refine h.go hzl rfl dk _ all (fun c J h2 h3 h4 h5 h6=>⟨_,(a c J h2).trans ((if_neg dn).trans ((if_neg dn).trans (if_pos rfl))),rfl,?_,h4,h5,rfl⟩) h.len.1;rfl
   ·rw [show decide ((3:Nat)=3)=true from rfl,Qb0] at e3
    injection e3 with e3 e3'
    subst e3;subst e3'
    refine .inl ⟨dn,?_⟩;exact h.fail rfl dk _ dk 3 dn (fun c J h2 h3 h4 h5 h6=>⟨_,(a c J h2).trans ((if_neg dn).trans ((if_neg dn).trans (if_neg dn)))⟩)
 ·have j:∀(i':Nat),i'<=8*zs.length->Vu s zs pr D k cf 7 (fun _=>True) (i',2) all:=fun i' hi'=>h.fail rfl dk i' hi' 2 dn (fun c J h2 h3 h4 h5 h6=>⟨c,by
   rw [Qin J];unfold Vf;rw [h2,if_neg hb]⟩)
  by_cases aj:i+1<=8*zs.length
  ·rw [QG aj] at e1
   injection e1 with e1 eL;injection e1 with e1 e1'
   subst e1;subst e1';subst eL;rw [Vm dk] at e2;injection e2 with e2 eK;injection e2 with e2 e2'
   subst e2;subst e2';subst eK;rw [VH (show (2:Int)≠0 by decide)] at e3;injection e3 with e3 e3'
   subst e3;subst e3'
   have:=Q4 (bnum zs) i 1;exact ⟨by rw [show (2:Nat)^1=2 from rfl] at this;omega,dk,aj,.inl ⟨dn,j _ aj⟩⟩
  ·rw [Vm aj] at e1
   injection e1 with e1 eL;injection e1 with e1 e1'
   subst e1;subst e1';subst eL;rw [Qns dn] at e2;injection e2 with e2 eK;injection e2 with e2 e2'
   subst e2;subst e2';subst eK;rw [VH (show (2:Int)≠0 by decide)] at e3;injection e3 with e3 e3'
   subst e3;subst e3'
   exact ⟨dk,dk,ar,.inl ⟨dn,j _ ar⟩⟩
theorem QkB(hzl:zs.length<=65536)(h:Vu s zs pr D k cf 8 (fun c=>c.last=b) r all):Vu s zs pr D k cf (if b=true then 16 else 7) (fun _=>True) r all:=by
 by_cases H:r.2=0
 ·have:=h.go (st':=if b=true then 16 else 7) (P':=fun _=>True) hzl H dk r.1 all (fun c h1 h2 h3 h4 h5 h6=>by
   cases b with
   | true=>exact ⟨{c with st:=16},by rw [QiE h1];unfold QW;rw [if_pos h6],rfl,h2,h4,h5,trivial⟩
   | false=>exact ⟨{c with st:=7},by rw [QiE h1];unfold QW;rw [if_neg (by rw [h6];decide)],rfl,h2,h4,h5,trivial⟩) h.len.1
  rw [<-H] at this;exact this
 ·exact h.off H
theorem Ql7(hzl:zs.length<=65536)(h:Vu s zs pr D k cf 9 (fun c=>c.last=b) (i,0) all){m:Nat}(e1:tk zs (i,0) 16=((i1,c1),n))(e2:tk zs (i1,c1) 16=((i2,c2),m))(e3:VJ (i2,c2) (decide ((m:Int)≠65535-(n:Int)))=(i3,c3)):
  n<=65535/\m<=65535/\i3<=8*zs.length/\Vu s zs pr D k cf 10 (fun c=>c.last=b/\c.stored=n) (i3,c3) all:=by
 have ar:=h.le;dsimp only at ar;by_cases hb:i+32<=8*zs.length
 ·rw [QG dk] at e1
  injection e1 with e1 eL;injection e1 with e1 e1'
  subst e1;subst e1';subst eL;rw [QG dk] at e2;injection e2 with e2 eK;injection e2 with e2 e2'
  subst e2;subst e2';subst eK;have Q:=Qbf (bnum zs) i 16 16;have hL:=Q4 (bnum zs) i 16;have hK:=Q4 (bnum zs) (i+16) 16;rw [show (16+16:Nat)=32 from rfl,show (2:Nat)^16=65536 from rfl] at Q;rw [show (2:Nat)^16=65536 from rfl] at hL hK;generalize field (bnum zs) i 16=n at*;generalize field (bnum zs) (i+16) 16=m at*;have q2:field (bnum zs) i 32/65536=m:=dk;have q1:field (bnum zs) i 32%65536=n:=dk;have a:∀c:IC,c.st=9->c.lc.i=i->Qq s zs c=(if m+n=65535 then .inl {c with st:=10,stored:=n,lc:={c.lc with i:=i+32}} else .inr (3,{c with stored:=n,lc:={c.lc with i:=i+32}})):=by
   intro c J h2;rw [QiV J];unfold Vk;rw [h2,if_pos hb,q2,q1]
  have h3:=Qcu (i+16+16,0) (decide ((m:Int)≠65535-(n:Int)));rw [e3] at h3;dsimp only at h3;refine ⟨dk,dk,dk,?_⟩;by_cases O:m+n=65535
  ·rw [decide_eq_false dk,Qbb] at e3
   injection e3 with e3 e3'
   subst e3;subst e3'
   exact h.go hzl rfl dk _ all (fun c J h2 h3 h4 h5 h6=>⟨_,(a c J h2).trans (if_pos O),rfl,by show i+32=_;omega,h4,h5,h6,rfl⟩) h.len.1
  ·rw [decide_eq_true dk,Qb0] at e3
   injection e3 with e3 e3'
   subst e3;subst e3'
   exact h.fail rfl dk _ dk 3 dn (fun c J h2 h3 h4 h5 h6=>⟨_,(a c J h2).trans (if_neg O)⟩)
 ·have j:∀(i':Nat),i'<=8*zs.length->Vu s zs pr D k cf 10 (fun c=>c.last=b/\c.stored=n) (i',2) all:=fun i' hi'=>h.fail rfl dk i' hi' 2 dn (fun c J h2 h3 h4 h5 h6=>⟨c,by
   rw [QiV J];unfold Vk;rw [h2,if_neg hb]⟩)
  by_cases aj:i+16<=8*zs.length
  ·rw [QG aj] at e1
   injection e1 with e1 eL;injection e1 with e1 e1'
   have:=Q4 (bnum zs) i 16;rw [eL,show (2:Nat)^16=65536 from rfl] at this;subst e1;subst e1'
   rw [Vm dk] at e2;injection e2 with e2 eK;injection e2 with e2 e2'
   subst e2;subst e2';subst eK;rw [VH (show (2:Int)≠0 by decide)] at e3;injection e3 with e3 e3'
   subst e3;subst e3'
   exact ⟨dk,dk,aj,j _ aj⟩
  ·rw [Vm aj] at e1
   injection e1 with e1 eL;injection e1 with e1 e1'
   subst e1;subst e1';subst eL;rw [Qns dn] at e2;injection e2 with e2 eK;injection e2 with e2 e2'
   subst e2;subst e2';subst eK;rw [VH (show (2:Int)≠0 by decide)] at e3;injection e3 with e3 e3'
   subst e3;subst e3'
   exact ⟨dk,dk,ar,j _ ar⟩
def tlP(pr:List Int)(D:Nat)(r:RR)(all data:List Int):RR×List Int:=if r.2=0 then (if 100000<pr.length+(all.length-D)+data.length then ((r.1,6),all) else (r,all++data)) else (r,all)
theorem Qlg(hz:Qh zs)(hzl:zs.length<=65536)(h:Vu s zs pr D k cf 10 (fun c=>c.last=b/\c.stored=n+1) (i,0) all){x:Nat}(e1:tk zs (i,0) 8=((i1,c1),x)){all':List Int}(e2:tlP pr D (i1,c1) all [(x:Int)]=((i2,c2),all')):
  x<=255/\i1<=8*zs.length/\Vu s zs pr D k cf 10 (fun c=>c.last=b/\c.stored=n) (i2,c2) all':=by
 have ar:=h.le;dsimp only at ar;obtain ⟨c,J,h2,h3,h4,U,h6,h7,h8⟩:=h.yes rfl;dsimp only at h2;have T:=h3.al<|.inr J
 rw [h2] at T;have a:Qq s zs c=Qw s zs c:=Qee J;unfold Qw at a;rw [if_neg (by omega:¬c.stored=0)] at a;have a5:=h3.u;have ai:c.u.length=pr.length+(all.length-D):=by rw [h4,List.length_append,List.length_drop]
 have hD:=h.len;by_cases hb:i+8<=8*zs.length
 ·rw [QG hb] at e1
  injection e1 with e1 eL;injection e1 with e1 e1'
  subst e1;subst e1';subst eL;have f:=QjD hz i T hb;have ab:=Q4 (bnum zs) i 8;rw [show (2:Nat)^8=256 from rfl] at ab;unfold tlP at e2;rw [if_pos rfl,List.length_singleton] at e2;refine ⟨dk,hb,?_⟩;by_cases hL:100000<pr.length+(all.length-D)+1
  ·rw [if_pos hL] at e2
   injection e2 with e2 e2'
   injection e2 with e2 e2''
   subst e2;subst e2';subst e2''
   have hm:stN zs c=1:=by unfold stN;rw [h8,h2,ai];omega
   rw [hm,h2,if_pos dk,ai,if_pos hL] at a;obtain ⟨a1,a2⟩:=h6.stop dk a;refine ⟨hD,hb,fun _=>⟨a1.symm,dk,?_⟩,fun e=>dx⟩;rw [a2];exact h4
  ·rw [if_neg hL] at e2
   injection e2 with e2 e2'
   injection e2 with e2 e2''
   subst e2;subst e2';subst e2''
   have hd:(zs.drop (i/8))=((field (bnum zs) i 8:Nat):Int)::zs.drop (i/8+1):=by
    have hl:i/8<zs.length:=dk;rw [List.drop_eq_getElem_cons hl,f,List.getD_eq_getElem?_getD,List.getElem?_eq_getElem hl];rfl
   have hM:1<=stN zs c/\stN zs c<=n+1/\stN zs c<=zs.length-i/8/\stN zs c<=100000-c.u.length/\(stN zs c=n+1\/stN zs c=zs.length-i/8\/stN zs c=100000-c.u.length):=by
    unfold stN;rw [h8,h2];omega
   generalize hx:field (bnum zs) i 8=x at*;have S:∀c',c'=Qap s {c with stored:=n,lc:={c.lc with i:=i+8}} [(x:Int)]->Vv s zs c' k cf/\Qag zs c':=by
    rintro c' rfl;have g:Qag zs (Qap s {c with stored:=n,lc:={c.lc with i:=i+8}} [(x:Int)]):=by
     refine ⟨kl,hb,?_,fun e=>?_,fun _=>h3.rest dk,fun e=>?_,fun _=>?_,fun _=>?_,fun e _=>?_,fun e=>?_,fun e=>?_,fun e=>?_⟩
     ·show (c.u++[(x:Int)]).length<=100000
      rw [List.length_append,List.length_singleton];omega
     ·have:c.st<=6:=e;omega
     ·have:c.st=6:=e;omega
     ·show (i+8)%8=0;omega
     ·show n<=65535;have:=h3.sto J;omega
     ·have:12<=c.st:=e;omega
     ·have:c.st=13:=e;omega
     ·have:c.st=14\/c.st=15:=e;omega
     ·have:c.st=15:=e;omega
    refine ⟨?_,g⟩;by_cases L:stN zs c=1
    ·rw [L,h2,if_pos dk,ai,if_neg hL,hd,h8] at a
     exact h6.step dk a
    ·rw [h2,if_pos dk,if_neg dk,hd,h8] at a
     have hE:=h6.step dk a;have d:Qq s zs (Qap s {c with stored:=n,lc:={c.lc with i:=i+8}} [(x:Int)])=_:=Qee (show c.st=10 from J);unfold Qw at d;have a0:stN zs (Qap s {c with stored:=n,lc:={c.lc with i:=i+8}} [(x:Int)])=stN zs c-1:=by
      unfold stN;show max 1 (min (min n (zs.length-(i+8)/8)) (100000-(c.u++[(x:Int)]).length))=_;rw [List.length_append,List.length_singleton,h8,h2];unfold stN at hM L;rw [h8,h2] at hM L;omega
     rw [a0,if_neg (by show ¬n=0;omega),if_pos (by show i+8+8*(stN zs c-1)<=_;omega),if_neg (by show ¬100000<(c.u++[(x:Int)]).length+_;rw [List.length_append,List.length_singleton];omega)] at d;refine .more jW d ?_;obtain ⟨m,hm⟩:∃m,stN zs c=m+1:=⟨stN zs c-1,dk⟩;rw [hm] at hE ⊢;have l:Qap s {(Qap s {c with stored:=n,lc:={c.lc with i:=i+8}} [(x:Int)]) with stored:=(Qap s {c with stored:=n,lc:={c.lc with i:=i+8}} [(x:Int)]).stored-(m+1-1),lc:={(Qap s {c with stored:=n,lc:={c.lc with i:=i+8}} [(x:Int)]).lc with i:=(Qap s {c with stored:=n,lc:={c.lc with i:=i+8}} [(x:Int)]).lc.i+8*(m+1-1)}} ((zs.drop ((Qap s {c with stored:=n,lc:={c.lc with i:=i+8}} [(x:Int)]).lc.i/8)).take (m+1-1))=Qap s {c with stored:=n+1-(m+1),lc:={c.lc with i:=i+8*(m+1)}} (((x:Int)::zs.drop (i/8+1)).take (m+1)):=by
      have d1:(i+8)/8=i/8+1:=dk;have d2:n-m=n+1-(m+1):=dk;have d3:i+8+8*m=i+8*(m+1):=dk;unfold Qap;simp only [Nat.add_sub_cancel,List.take_succ_cons,d1,d2,d3,List.append_assoc,List.singleton_append,Qb7]
     rw [l];exact hE
   obtain ⟨g1,g2⟩:=S _ rfl;refine ⟨⟨kv,by rw [List.length_append,List.length_singleton];omega⟩,hb,fun e=>absurd rfl e,fun _=>⟨Qap s {c with stored:=n,lc:={c.lc with i:=i+8}} [(x:Int)],J,rfl,g2,?_,?_,g1,h7,rfl⟩⟩
   ·show c.u++[(x:Int)]=_
    rw [h4,List.drop_append_of_le_length dk,List.append_assoc]
   ·show lastN s (c.t++[(x:Int)])=_
    rw [U,Qb7]
 ·rw [Vm hb] at e1
  injection e1 with e1 eL;injection e1 with e1 e1'
  subst e1;subst e1';subst eL;unfold tlP at e2;rw [if_neg (show ¬(2:Int)=0 by decide)] at e2;injection e2 with e2 e2'
  injection e2 with e2 e2''
  subst e2;subst e2';subst e2''
  refine ⟨dk,ar,?_⟩;have hm:stN zs c=1:=by unfold stN;rw [h8,h2];omega
  rw [hm,h2,if_neg dk] at a;obtain ⟨a1,a2⟩:=h6.stop dk a;refine ⟨hD,ar,fun _=>⟨a1.symm,dk,?_⟩,fun e=>dx⟩;rw [a2];exact h4
theorem QnD(hzl:zs.length<=65536)(h:Vu s zs pr D k cf 10 (fun c=>c.last=b/\c.stored=0) r all):Vu s zs pr D k cf 8 (fun c=>c.last=b) r all:=by
 by_cases H:r.2=0
 ·have:=h.go (st':=8) (P':=fun c=>c.last=b) hzl H dk r.1 all (fun c h1 h2 h3 h4 h5 h6=>⟨{c with st:=8},by rw [Qee h1];unfold Qw;rw [if_pos h6.2],rfl,h2,h4,h5,h6.1⟩) h.len.1
  rw [<-H] at this;exact this
 ·exact h.off H
end
section
variable{zs pr all ls ds:List Int}{k c1 c2:Int}{s i D i1 B E n i2:Nat}{cf:IC}{b:Bool}{c c':LC}
theorem Qon{v:Int}{t:Nat}(hs:addS c v t=.inl c')(h6:c'.st=6):chk (c'.lens.take (c'.f 2).toNat) (c'.lens.drop (c'.f 2).toNat):=by
 unfold addS at hs;split at hs
 ·cases hs
 ·split at hs
  ·injection hs with e;subst e;cases h6
  ·split at hs
   ·rename_i I
    injection hs with e;subst e;exact I
   ·cases hs
theorem Qk5(h5:c.st<=5)(hs:Qx zs c=.inl c')(h6:c'.st=6):chk (c'.lens.take (c'.f 2).toNat) (c'.lens.drop (c'.f 2).toNat):=by
 unfold Qx at hs;repeat' (split at hs)
 all_goals (try unfold QS at hs)
 all_goals (try unfold QF at hs)
 all_goals (try unfold QE at hs)
 all_goals (try unfold QX at hs)
 all_goals (try unfold Vq at hs)
 all_goals (try unfold Vs at hs)
 all_goals repeat' (split at hs)
 all_goals first|(exact Qon hs h6)|(cases hs;done)|(injection hs with e;subst e;cases h6)
theorem Vy.chk{cf:LC}(h:Vy zs c k cf)(hk:k=1)(hw:QQ c)(h5:c.st<=5):chk (cf.lens.take (cf.f 2).toNat) (cf.lens.drop (cf.f 2).toNat):=by
 obtain ⟨n,M⟩:=h;induction n generalizing c with
 | zero=>exact M.elim
 | succ n ih=>
  rcases M with ⟨J,_⟩|⟨J,E⟩|⟨J,c',E,h3⟩
  ·exact absurd h5 J
  ·exact gR
  ·have o:=VY hw J E
   by_cases h6:c'.st<=5
   ·exact ih o h6 h3
   ·have:=o.s6
    have hL:Vy zs c' k cf:=⟨n,h3⟩;rcases hL.cut with ⟨_,_,e⟩|⟨h7,_⟩|⟨h7,_⟩
    ·rw [e]
     exact Qk5 J E dk
    ·exact absurd h7 h6
    ·exact absurd h7 h6
theorem Qlo(h:hk zs=1\/hk zs=4\/hk zs=5):okC zs=true:=by
 have ho:okB zs=true:=by
  cases hb:okB zs with
  | true=>rfl
  | false=>
   exact pB
 unfold okC;rw [ho,Bool.true_and];refine decide_eq_true ?_;omega
theorem Qi0{k2:Int}{cf2:LC}(hzl:zs.length<=65536):∀(n:Nat) (c:IC),QjT zs n c.lc k2 cf2->c.lc.st=c.st->c.st<=6->Qag zs c->Vv s zs c k cf->
  (k2=1->Vv s zs {c with st:=cf2.st,lc:=cf2} k cf/\Qag zs {c with st:=cf2.st,lc:=cf2})/\(k2≠1->k=k2/\cf.u=c.u):=by
 intro n;induction n with
 | zero=>intro c M;exact M.elim
 | succ n ih=>
  intro c M d h6 hW hE;rcases M with ⟨J,rfl,rfl⟩|⟨J,E⟩|⟨J,l,E,h3⟩
  ·refine ⟨fun _=>?_,fun e=>absurd rfl e⟩
   rw [d];exact ⟨hE,hW⟩
  ·have j:Qq s zs c=.inr (k2,{c with st:=cf2.st,lc:=cf2}):=by
    unfold Qq;rw [if_pos dk,E]
   obtain ⟨e1,e2⟩:=hE.stop dk j;refine ⟨fun e=>?_,fun _=>⟨e1,by rw [e2]⟩⟩;exact gR
  ·have j:Qq s zs c=.inl {c with st:=l.st,lc:=l}:=by
    unfold Qq;rw [if_pos dk,E]
   have x:=(Qa3 hW dk hzl j).1;have a:l.st<=6:=(VY (hW.lens h6).1 J E).s6;exact ih {c with st:=l.st,lc:=l} h3 rfl a x (hE.step dk j)
def Vz(ls ds:List Int)(b:Bool)(c:IC):Prop:=c.ul=ls/\c.ud=ds/\c.last=b
theorem Qnd(hzl:zs.length<=65536)(h:Vu s zs pr D k cf 11 (fun c=>c.last=b) (i,0) all):Vu s zs pr D k cf 12 (Vz F288 F32 b) (i,0) all:=
 h.go hzl rfl dk i all (fun c h1 h2 h3 h4 h5 h6=>⟨{c with st:=12,fx:=true,ul:=F288,ud:=F32},by rw [Qm4 h1];rfl,rfl,h2,h4,h5,rfl,rfl,h6⟩) h.len.1
theorem QqW(hzl:zs.length<=65536)(h:Vu s zs pr D k cf 0 (fun c=>c.last=b) (i,0) all):
  ∃c0 k2 cf2,c0.st=0/\c0.i=i/\Vy zs c0 k2 cf2/\(k2=1->okC (cf2.lens.take (cf2.f 2).toNat)=true/\okC (cf2.lens.drop (cf2.f 2).toNat)=true/\(cf2.lens.take (cf2.f 2).toNat).length<=320/\(cf2.lens.drop (cf2.f 2).toNat).length<=320/\Vu s zs pr D k cf 12 (Vz (cf2.lens.take (cf2.f 2).toNat) (cf2.lens.drop (cf2.f 2).toNat) b) (cf2.i,0) all)/\(k2≠1->k2≠0/\∀i',i'<=8*zs.length->Vu s zs pr D k cf 12 (Vz (cf2.lens.take (cf2.f 2).toNat) (cf2.lens.drop (cf2.f 2).toNat) b) (i',k2) all):=by
 obtain ⟨c,J,h2,h3,h4,U,h6,h7⟩:=h.yes rfl;obtain ⟨a,Q⟩:=h3.lens dk;obtain ⟨k2,cf2,hL⟩:=Vy.ex (zs:=zs) (lmu c.lc+1) c.lc a (Nat.lt_succ_self _);refine ⟨c.lc,k2,cf2,dk,h2,hL,?_⟩;obtain ⟨n,M⟩:=hL;have hL:Vy zs c.lc k2 cf2:=⟨n,M⟩;obtain ⟨b1,b2⟩:=Qi0 hzl n c M Q dk h3 h6;have ad:=hL.kinds;refine ⟨fun e=>?_,fun e=>?_⟩
 ·obtain ⟨g1,g2⟩:=b1 e
  have a2:=hL.chk e a dk;rcases hL.good a with ⟨_,d,j⟩|an
  ·have ab:=d.lit dk
   have O:=d.dist dk;have g:=g2.full j;dsimp only at g;have hA:Vu s zs pr D k cf 6 (fun c'=>c'.lc=cf2/\c'.last=b) (cf2.i,0) all:=
    ⟨h.len,g2.le,fun e=>absurd rfl e,fun _=>⟨{c with st:=cf2.st,lc:=cf2},j,rfl,g2,h4,U,g1,rfl,h7⟩⟩
   refine ⟨Qlo (by rcases a2.2.1 with h|h;exact .inl h;exact .inr (.inl h)),Qlo a2.2.2,dS,eH,?_⟩;refine hA.go hzl rfl dk cf2.i all (fun c J h2 h3 h4 U h6=>⟨{c with st:=12,ul:=c.lc.lens.take (c.lc.f 2).toNat,ud:=c.lc.lens.drop (c.lc.f 2).toNat,lc:={c.lc with st:=0}},by rw [QnT J];rfl,rfl,h2,h4,U,?_,?_,h6.2⟩) h.len.1
   ·rw [h6.1]
   ·rw [h6.1]
  ·exact absurd e an
 ·obtain ⟨g1,g2⟩:=b2 e
  refine ⟨dk,fun i' hi'=>⟨h.len,hi',fun _=>⟨g1.symm,dk,by rw [g2,h4]⟩,fun e=>?_⟩⟩;omega
theorem QiF(ls:List Int)(b n:Nat):(nx3 ls b n).1=0\/(nx3 ls b n).1=1\/(nx3 ls b n).1=2:=kx
theorem Qou(zs tb:List Int)(i:Nat):sy zs (i,0) tb=((i+(nx3 tb (field (bnum zs) i (Nat.min (8*zs.length-i) 15)) (Nat.min (8*zs.length-i) 15)).2.2,if (nx3 tb (field (bnum zs) i (Nat.min (8*zs.length-i) 15)) (Nat.min (8*zs.length-i) 15)).1=2 then 2 else if (nx3 tb (field (bnum zs) i (Nat.min (8*zs.length-i) 15)) (Nat.min (8*zs.length-i) 15)).1=0 then 3 else 0),(nx3 tb (field (bnum zs) i (Nat.min (8*zs.length-i) 15)) (Nat.min (8*zs.length-i) 15)).2.1):=by
 unfold sy;rw [if_pos rfl];rfl
theorem Qrx{tb:List Int}{x:Int}(h:x≠0):sy zs (i,x) tb=((i,x),0):=by
 unfold sy;rw [if_neg h]
theorem QgR(tb:List Int)(b n:Nat):(nx3 tb b n).2.2<=n:=by
 unfold nx3;repeat' split
 all_goals first|assumption|exact Nat.zero_le _
def QhF(s:Nat)(c:IC)(K S l:Nat):IC⊕(Int×IC):=
 if K=1 then
  if S<256 then
   if 100000<c.u.length+1 then .inr (6,{c with lc:={c.lc with i:=c.lc.i+l}}) else .inl (Qap s {c with lc:={c.lc with i:=c.lc.i+l}} [(S:Int)])
  else if S=256 then .inl {c with st:=8,lc:={c.lc with i:=c.lc.i+l}}
  else if 285<S then .inr (3,{c with lc:={c.lc with i:=c.lc.i+l}})
  else .inl {c with st:=13,base:=(VF S).1,extra:=(VF S).2,lc:={c.lc with i:=c.lc.i+l}}
 else if K=2 then .inr (2,c) else .inr (3,c)
theorem QjJ(s:Nat)(zs:List Int)(c:IC):VS s zs c=QhF s c (nx3 c.ul (field (bnum zs) c.lc.i (Nat.min (8*zs.length-c.lc.i) 15)) (Nat.min (8*zs.length-c.lc.i) 15)).1 (nx3 c.ul (field (bnum zs) c.lc.i (Nat.min (8*zs.length-c.lc.i) 15)) (Nat.min (8*zs.length-c.lc.i) 15)).2.1 (nx3 c.ul (field (bnum zs) c.lc.i (Nat.min (8*zs.length-c.lc.i) 15)) (Nat.min (8*zs.length-c.lc.i) 15)).2.2:=rfl
def QlW(c:IC)(K S l:Nat):IC⊕(Int×IC):=
 if K=1 then
  if 29<S then .inr (3,{c with lc:={c.lc with i:=c.lc.i+l}})
  else .inl {c with st:=15,base:=(Qae S).1,extra:=(Qae S).2,lc:={c.lc with i:=c.lc.i+l}}
 else if K=2 then .inr (2,c) else .inr (3,c)
theorem Qif(zs:List Int)(c:IC):VU zs c=QlW c (nx3 c.ud (field (bnum zs) c.lc.i (Nat.min (8*zs.length-c.lc.i) 15)) (Nat.min (8*zs.length-c.lc.i) 15)).1 (nx3 c.ud (field (bnum zs) c.lc.i (Nat.min (8*zs.length-c.lc.i) 15)) (Nat.min (8*zs.length-c.lc.i) 15)).2.1 (nx3 c.ud (field (bnum zs) c.lc.i (Nat.min (8*zs.length-c.lc.i) 15)) (Nat.min (8*zs.length-c.lc.i) 15)).2.2:=rfl
def QmY(s:Nat)(c:IC)(E d:Nat):IC⊕(Int×IC):=
 if c.t.length<d then .inr (3,{c with lc:={c.lc with i:=c.lc.i+E}})
 else if 100000<c.u.length+c.len then .inr (6,{c with lc:={c.lc with i:=c.lc.i+E}})
 else .inl {QfD s {c with lc:={c.lc with i:=c.lc.i+E}} d with st:=12}
theorem Qe2(s:Nat)(zs:List Int)(c:IC):QL s zs c=if c.lc.i+c.extra<=8*zs.length then QmY s c c.extra (c.base+field (bnum zs) c.lc.i c.extra) else .inr (2,c):=rfl
theorem QqE(hzl:zs.length<=65536)(h:Vu s zs pr D k cf 12 (Vz ls ds b) (i,0) all){S:Nat}(e1:sy zs (i,0) ls=((i1,c1),S)):
  i1<=8*zs.length/\(c1≠0->S=0/\Vu s zs pr D k cf 12 (Vz ls ds b) (i1,c1) all)/\(c1=0->i<i1/\S<ls.length/\(S=256->Vu s zs pr D k cf 8 (fun c=>c.last=b) (i1,0) all)/\(S<256->∀i2 c2 all',tlP pr D (i1,0) all [(S:Int)]=((i2,c2),all')->Vu s zs pr D k cf 12 (Vz ls ds b) (i2,c2) all')/\(285<S->Vu s zs pr D k cf 12 (Vz ls ds b) (i1,3) all)/\(256<S->S<=285->Vu s zs pr D k cf 13 (fun c=>Vz ls ds b c/\c.base=(VF S).1/\c.extra=(VF S).2) (i1,0) all)):=by
 have ar:=h.le;dsimp only at ar;rw [Qou] at e1;have x:=QiF ls (field (bnum zs) i (Nat.min (8*zs.length-i) 15)) (Nat.min (8*zs.length-i) 15);have F:=QgR ls (field (bnum zs) i (Nat.min (8*zs.length-i) 15)) (Nat.min (8*zs.length-i) 15);have g:Nat.min (8*zs.length-i) 15<=8*zs.length-i:=Nat.min_le_left _ _;have E:=@QcH ls (field (bnum zs) i (Nat.min (8*zs.length-i) 15)) (Nat.min (8*zs.length-i) 15);have j:=@QaP ls (field (bnum zs) i (Nat.min (8*zs.length-i) 15)) (Nat.min (8*zs.length-i) 15);have af:(nx3 ls (field (bnum zs) i (Nat.min (8*zs.length-i) 15)) (Nat.min (8*zs.length-i) 15)).1≠1->(nx3 ls (field (bnum zs) i (Nat.min (8*zs.length-i) 15)) (Nat.min (8*zs.length-i) 15)).2.1=0:=kx;have a:∀c:IC,c.st=12->c.lc.i=i->c.ul=ls->Qq s zs c=QhF s c (nx3 ls (field (bnum zs) i (Nat.min (8*zs.length-i) 15)) (Nat.min (8*zs.length-i) 15)).1 (nx3 ls (field (bnum zs) i (Nat.min (8*zs.length-i) 15)) (Nat.min (8*zs.length-i) 15)).2.1 (nx3 ls (field (bnum zs) i (Nat.min (8*zs.length-i) 15)) (Nat.min (8*zs.length-i) 15)).2.2:=fun c h1 h2 h3=>by
  rw [Qmv h1,QjJ,h2,h3]
 generalize nx3 ls (field (bnum zs) i (Nat.min (8*zs.length-i) 15)) (Nat.min (8*zs.length-i) 15)=X at*;obtain ⟨K,O,l⟩:=X;dsimp only at*;injection e1 with e1 eS;injection e1 with e1 e1'
 subst eS;subst e1;refine ⟨dk,fun hc=>?_,fun hc=>?_⟩
 ·have hK:K≠1:=by
   intro e;subst e;rw [if_neg dn,if_neg dn] at e1'
   exact hc e1'.symm
  refine ⟨af hK,?_⟩;rcases x with e|e|e
  ·subst e
   rw [if_neg dn,if_pos rfl] at e1'
   subst e1'
   exact h.fail rfl dk _ dk 3 dn (fun c h1 h2 h3 h4 h5 h6=>⟨c,by rw [a c h1 h2 h6.1];unfold QhF;rw [if_neg dn,if_neg dn]⟩)
  ·exact absurd e hK
  ·subst e
   rw [if_pos rfl] at e1'
   subst e1'
   exact h.fail rfl dk _ dk 2 dn (fun c h1 h2 h3 h4 h5 h6=>⟨c,by rw [a c h1 h2 h6.1];unfold QhF;rw [if_neg dn,if_pos rfl]⟩)
 ·have hK:K=1:=by
   rcases x with e|e|e
   ·subst e;rw [if_neg dn,if_pos rfl] at e1';omega
   ·exact e
   ·subst e;rw [if_pos rfl] at e1';omega
  subst hK;have ab:=E rfl;refine ⟨dk,(j rfl).1,fun h256=>?_,fun hlt=>?_,fun hgt=>?_,fun hg1 hg2=>?_⟩
  ·exact h.go hzl rfl dk _ all (fun c h1 h2 h3 h4 h5 h6=>⟨{c with st:=8,lc:={c.lc with i:=c.lc.i+l}},by rw [a c h1 h2 h6.1];unfold QhF;rw [if_pos rfl,if_neg dk,if_pos h256],rfl,ip,h4,h5,h6.2.2⟩) h.len.1
  ·intro i2 c2 all' e2
   unfold tlP at e2;rw [if_pos rfl,List.length_singleton] at e2;by_cases hL:100000<pr.length+(all.length-D)+1
   ·rw [if_pos hL] at e2
    injection e2 with e2 e2'
    injection e2 with e2 e2''
    subst e2;subst e2';subst e2''
    exact h.fail rfl dk _ dk 6 dn (fun c h1 h2 h3 h4 h5 h6=>⟨_,by rw [a c h1 h2 h6.1];unfold QhF;rw [if_pos rfl,if_pos hlt,if_pos pC]⟩)
   ·rw [if_neg hL] at e2
    injection e2 with e2 e2'
    injection e2 with e2 e2''
    subst e2;subst e2';subst e2''
    exact h.go hzl rfl dk _ _ (fun c h1 h2 h3 h4 h5 h6=>⟨Qap s {c with lc:={c.lc with i:=c.lc.i+l}} [(O:Int)],by rw [a c h1 h2 h6.1];unfold QhF;rw [if_pos rfl,if_pos hlt,if_neg pC],h1,ip,by show c.u++_=_;rw [h4,List.drop_append_of_le_length h.len.1,List.append_assoc],by show lastN s (c.t++_)=_;rw [h5,Qb7],h6⟩) (by rw [List.length_append];have:=h.len.1;omega)
  ·exact h.fail rfl dk _ dk 3 dn (fun c h1 h2 h3 h4 h5 h6=>⟨_,by rw [a c h1 h2 h6.1];unfold QhF;rw [if_pos rfl,if_neg dk,if_neg dk,if_pos hgt]⟩)
  ·exact h.go hzl rfl dk _ all (fun c h1 h2 h3 h4 h5 h6=>⟨{c with st:=13,base:=(VF O).1,extra:=(VF O).2,lc:={c.lc with i:=c.lc.i+l}},by rw [a c h1 h2 h6.1];unfold QhF;rw [if_pos rfl,if_neg dk,if_neg dk,if_neg dk],rfl,ip,h4,h5,h6,rfl,rfl⟩) h.len.1
theorem QpB{Q:IC->Prop}(hzl:zs.length<=65536)(hQ:∀c c':IC,c'.ul=c.ul->c'.ud=c.ud->c'.last=c.last->Q c->Q c')(h:Vu s zs pr D k cf 13 (fun c=>Q c/\c.base=B/\c.extra=E) (i,0) all){x:Nat}(e1:tk zs (i,0) E=((i1,c1),x)):
  i<=i1/\Vu s zs pr D k cf 14 (fun c=>Q c/\c.len=B+x) (i1,c1) all:=by
 have ar:=h.le;dsimp only at ar;by_cases hb:i+E<=8*zs.length
 ·rw [QG hb] at e1
  injection e1 with e1 eL;injection e1 with e1 e1'
  subst e1;subst e1';subst eL;exact ⟨dk,h.go hzl rfl dk _ all (fun c h1 h2 h3 h4 h5 h6=>⟨{c with st:=14,len:=c.base+field (bnum zs) c.lc.i c.extra,lc:={c.lc with i:=c.lc.i+c.extra}},by rw [QgT h1];unfold Vj;rw [if_pos ky],rfl,by show c.lc.i+c.extra=_;rw [h2,h6.2.2],h4,h5,hQ c _ rfl rfl rfl h6.1,by show c.base+field (bnum zs) c.lc.i c.extra=_;rw [h2,h6.2.2,h6.2.1]⟩) h.len.1⟩
 ·rw [Vm hb] at e1
  injection e1 with e1 eL;injection e1 with e1 e1'
  subst e1;subst e1';subst eL;exact ⟨dk,h.fail rfl dk _ ar 2 dn (fun c h1 h2 h3 h4 h5 h6=>⟨c,by rw [QgT h1];unfold Vj;rw [if_neg ky]⟩)⟩
theorem Qng{c0:Int}(hzl:zs.length<=65536)(h:Vu s zs pr D k cf 14 (fun c=>Vz ls ds b c/\c.len=n) (i,c0) all){d:Nat}(e1:sy zs (i,c0) ds=((i1,c1),d))(e2:VJ (i1,c1) (decide ((d:Int) > 29))=(i2,c2)):
  i<=i1/\i1<=8*zs.length/\i2=i1/\(c2=0->d<=29)/\Vu s zs pr D k cf 15 (fun c=>(Vz ls ds b c/\c.len=n)/\c.base=(Qae d).1/\c.extra=(Qae d).2) (i2,c2) all:=by
 have ar:=h.le;dsimp only at ar;by_cases B:c0=0
 ·subst B
  rw [Qou] at e1;have x:=QiF ds (field (bnum zs) i (Nat.min (8*zs.length-i) 15)) (Nat.min (8*zs.length-i) 15);have F:=QgR ds (field (bnum zs) i (Nat.min (8*zs.length-i) 15)) (Nat.min (8*zs.length-i) 15);have g:Nat.min (8*zs.length-i) 15<=8*zs.length-i:=Nat.min_le_left _ _;have af:(nx3 ds (field (bnum zs) i (Nat.min (8*zs.length-i) 15)) (Nat.min (8*zs.length-i) 15)).1≠1->(nx3 ds (field (bnum zs) i (Nat.min (8*zs.length-i) 15)) (Nat.min (8*zs.length-i) 15)).2.1=0:=kx;have a:∀c:IC,c.st=14->c.lc.i=i->c.ud=ds->Qq s zs c=QlW c (nx3 ds (field (bnum zs) i (Nat.min (8*zs.length-i) 15)) (Nat.min (8*zs.length-i) 15)).1 (nx3 ds (field (bnum zs) i (Nat.min (8*zs.length-i) 15)) (Nat.min (8*zs.length-i) 15)).2.1 (nx3 ds (field (bnum zs) i (Nat.min (8*zs.length-i) 15)) (Nat.min (8*zs.length-i) 15)).2.2:=fun c h1 h2 h3=>by
   rw [Qmr h1,Qif,h2,h3]
  generalize nx3 ds (field (bnum zs) i (Nat.min (8*zs.length-i) 15)) (Nat.min (8*zs.length-i) 15)=X at*;obtain ⟨K,f,l⟩:=X;dsimp only at*;injection e1 with e1 eS;injection e1 with e1 e1'
  subst eS;subst e1;have Q:=Qcu (i+l,c1) (decide ((f:Int) > 29));rw [e2] at Q;dsimp only at Q;refine ⟨dk,dk,Q,?_⟩;subst Q;rcases x with e|e|e
  ·subst e
   rw [if_neg dn,if_pos rfl] at e1'
   subst e1'
   rw [VH (show (3:Int)≠0 by decide)] at e2;injection e2 with _ e2;subst e2;exact ⟨fun h=>dk,h.fail rfl dk _ dk 3 dn (fun c h1 h2 h3 h4 h5 h6=>⟨c,by rw [a c h1 h2 h6.1.2.1];unfold QlW;rw [if_neg dn,if_neg dn]⟩)⟩
  ·subst e
   rw [if_neg dn,if_neg dn] at e1'
   subst e1'
   by_cases hd:29<f
   ·rw [decide_eq_true dk,Qb0] at e2
    injection e2 with _ e2;subst e2;exact ⟨fun h=>dk,h.fail rfl dk _ dk 3 dn (fun c h1 h2 h3 h4 h5 h6=>⟨_,by rw [a c h1 h2 h6.1.2.1];unfold QlW;rw [if_pos rfl,if_pos hd]⟩)⟩
   ·rw [decide_eq_false dk,Qbb] at e2
    injection e2 with _ e2;subst e2;exact ⟨fun _=>dk,h.go hzl rfl dk _ all (fun c h1 h2 h3 h4 h5 h6=>⟨{c with st:=15,base:=(Qae f).1,extra:=(Qae f).2,lc:={c.lc with i:=c.lc.i+l}},by rw [a c h1 h2 h6.1.2.1];unfold QlW;rw [if_pos rfl,if_neg hd],rfl,ip,h4,h5,h6,rfl,rfl⟩) h.len.1⟩
  ·subst e
   rw [if_pos rfl] at e1'
   subst e1'
   rw [VH (show (2:Int)≠0 by decide)] at e2;injection e2 with _ e2;subst e2;exact ⟨fun h=>dk,h.fail rfl dk _ dk 2 dn (fun c h1 h2 h3 h4 h5 h6=>⟨c,by rw [a c h1 h2 h6.1.2.1];unfold QlW;rw [if_neg dn,if_pos rfl]⟩)⟩
 ·rw [Qrx B] at e1
  injection e1 with e1 eS;injection e1 with e1 e1'
  subst eS;subst e1;subst e1'
  rw [VH B] at e2;injection e2 with e2 e2'
  subst e2;subst e2'
  exact ⟨Nat.le_refl _,ar,rfl,fun _=>dk,h.off B⟩
theorem QoZ(hzl:zs.length<=65536)(h:Vu s zs pr D k cf 15 (fun c=>(Vz ls ds b c/\c.len=n)/\c.base=B/\c.extra=E) (i,0) all){y i3:Nat}{c3:Int}{all':List Int}(e1:tk zs (i,0) E=((i1,c1),y))(e2:VJ (i1,c1) (decide (all.length<B+y\/s<B+y))=(i2,c2))(e3:tlP pr D (i2,c2) all (VG all (B+y) n)=((i3,c3),all')):
  i<=i1/\i1<=8*zs.length/\i2=i1/\(c2=0->B+y<=all.length/\B+y<=s)/\i3=i2/\Vu s zs pr D k cf 12 (Vz ls ds b) (i3,c3) all':=by
 have ar:=h.le;have hD:=h.len;dsimp only at ar;have Q:=Qcu (i1,c1) (decide (all.length<B+y\/s<B+y));rw [e2] at Q;dsimp only at Q;have h3:i3=i2:=by
  unfold tlP at e3;repeat' (split at e3)
  all_goals (injection e3 with e3 _;injection e3 with e3 _;exact e3.symm)
 subst h3;subst Q;by_cases hb:i+E<=8*zs.length
 ·rw [QG hb] at e1
  injection e1 with e1 eL;injection e1 with e1 e1'
  subst e1;subst e1';subst eL;refine ⟨dk,hb,rfl,?_⟩;have a:∀c:IC,c.st=15->c.lc.i=i->c.extra=E->c.base=B->Qq s zs c=QmY s c E (B+field (bnum zs) i E):=fun c h1 h2 h3 h4=>by
   rw [QgC h1,Qe2,h2,h3,h4,if_pos hb]
  generalize field (bnum zs) i E=y at*;have j:∀c:IC,c.t=lastN s all->c.t.length=min all.length s:=fun c h=>by rw [h,QC]
  by_cases hd:all.length<B+y\/s<B+y
  ·rw [decide_eq_true hd,Qb0] at e2
   injection e2 with _ e2;subst e2;unfold tlP at e3;rw [if_neg (show ¬(3:Int)=0 by decide)] at e3;injection e3 with e3 e3'
   injection e3 with _ e3;subst e3;subst e3'
   exact ⟨fun h=>dk,rfl,h.fail rfl dk _ hb 3 dn (fun c h1 h2 h3 h4 h5 h6=>⟨_,by rw [a c h1 h2 h6.2.2 h6.2.1];unfold QmY;rw [if_pos kA]⟩)⟩
  ·rw [decide_eq_false hd,Qbb] at e2
   injection e2 with _ e2;subst e2;unfold tlP at e3;rw [if_pos rfl,Qam] at e3;refine ⟨fun _=>dk,rfl,?_⟩;by_cases hL:100000<pr.length+(all.length-D)+n
   ·rw [if_pos hL] at e3
    injection e3 with e3 e3'
    injection e3 with _ e3;subst e3;subst e3'
    exact h.fail rfl dk _ hb 6 dn (fun c h1 h2 h3 h4 h5 h6=>⟨_,by rw [a c h1 h2 h6.2.2 h6.2.1];unfold QmY;rw [if_neg kA,if_pos pD]⟩)
   ·rw [if_neg hL] at e3
    injection e3 with e3 e3'
    injection e3 with _ e3;subst e3;subst e3'
    refine h.go hzl rfl dk _ _ (fun c h1 h2 h3 h4 h5 h6=>⟨{QfD s {c with lc:={c.lc with i:=c.lc.i+E}} (B+y) with st:=12},by rw [a c h1 h2 h6.2.2 h6.2.1];unfold QmY;rw [if_neg kA,if_neg pD],rfl,by show c.lc.i+E=_;rw [h2],?_,?_,h6.1.1⟩) kv
    ·show c.u++VG c.t (B+y) c.len=_
     rw [h4,h5,h6.1.2,QiS s all (B+y) n fh,List.drop_append_of_le_length hD.1,List.append_assoc]
    ·show lastN s (QM c.t (B+y) c.len)=_
     rw [h5,h6.1.2,Qib s all (B+y) n fh,Qmg]
 ·rw [Vm hb] at e1
  injection e1 with e1 eL;injection e1 with e1 e1'
  subst e1;subst e1';subst eL;rw [VH (show (2:Int)≠0 by decide)] at e2;injection e2 with _ e2;subst e2;unfold tlP at e3;rw [if_neg (show ¬(2:Int)=0 by decide)] at e3;injection e3 with e3 e3'
  injection e3 with _ e3;subst e3;subst e3'
  exact ⟨dk,ar,rfl,fun h=>dk,rfl,h.fail rfl dk _ ar 2 dn (fun c h1 h2 h3 h4 h5 h6=>⟨c,by rw [QgC h1];unfold QL;rw [if_neg ky]⟩)⟩
end
end Go.Proofs.YtgginbpmebgkcaaGreatDoor
