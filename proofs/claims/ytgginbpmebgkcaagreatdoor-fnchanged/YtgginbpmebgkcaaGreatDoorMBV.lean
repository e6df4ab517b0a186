import Derived.Test.YtgginbpmebgkcaaGreatDoorMBI
import Derived.Test.YtgginbpmebgkcaaGreatDoorMBJ
import Derived.Test.YtgginbpmebgkcaaGreatDoorMBM
import Derived.Test.YtgginbpmebgkcaaGreatDoorMBP
import Derived.Test.YtgginbpmebgkcaaGreatDoorMBU
namespace Go.Proofs.YtgginbpmebgkcaaGreatDoor
open Go.RowKit Go.Proofs.Tryz
set_option linter.unusedVariables false
set_option maxRecDepth 100000
set_option maxHeartbeats 25600000
section
section
variable {C : Type}
theorem Vo.det{now:C->Option (Nat×Array Value)}{step:C->C⊕(Int×C)}{c cf cf':C}{k k':Int}(h:Vo now step c k cf)(h':Vo now step c k' cf'):k=k'/\cf=cf':=by
 obtain ⟨n,M⟩:=h;obtain ⟨m,hm⟩:=h'
 induction n generalizing c m with
 | zero=>exact M.elim
 | succ n ih=>
  cases m with
  | zero=>exact hm.elim
  | succ m=>
   rcases M with ⟨J,rfl,rfl⟩|⟨J,E⟩|⟨J,c1,E,h3⟩
   ·rcases hm with ⟨_,rfl,rfl⟩|⟨h2,_⟩|⟨h2,_⟩
    ·exact d6
    ·exact absurd J h2
    ·exact absurd J h2
   ·rcases hm with ⟨h2,_⟩|⟨_,j⟩|⟨_,c2,j,_⟩
    ·exact absurd h2 J
    ·rw [E] at j
     injection j with e;injection e with e1 e2;exact ⟨e1,e2⟩
    ·rw [E] at j
     cases j
   ·rcases hm with ⟨h2,_⟩|⟨_,j⟩|⟨_,c2,j,h4⟩
    ·exact absurd h2 J
    ·rw [E] at j
     cases j
    ·rw [E] at j
     injection j with e;subst e;exact ih h3 m h4
theorem Vo.next{now:C->Option (Nat×Array Value)}{step:C->C⊕(Int×C)}{c c' cf:C}{k:Int}(h:Vo now step c k cf)(h1:now c≠none)(hs:step c=.inl c'):Vo now step c' k cf:=by
 obtain ⟨n,M⟩:=h;cases n with
 | zero=>exact M.elim
 | succ n=>
  rcases M with ⟨h2,_⟩|⟨_,h2⟩|⟨_,c2,h2,h3⟩
  ·exact absurd h2 h1
  ·rw [hs] at h2
   cases h2
  ·rw [hs] at h2
   injection h2 with e;subst e;exact ⟨n,h3⟩
end
theorem QaW(z q s:Nat)(c:IC):VZ z q ⟨2,s,c,false⟩≠none:=by
 unfold VZ;by_cases h:c.st<=15<;>simp [h]
theorem Qpv{z q s:Nat}{A d:List Int}(hzl:A.length<=65536){n:Nat}{c c':IC}(h:RTo s A n c c')(hok:ZOK A d ⟨2,s,c,false⟩){k:Int}{cf:ZC}(hE:ZOK A d ⟨2,s,c',false⟩->Vo (VZ z q) (VR A d) ⟨2,s,c',false⟩ k cf):Vo (VZ z q) (VR A d) ⟨2,s,c,false⟩ k cf:=by
 induction n generalizing c with
 | zero=>
  have e:c=c':=h;subst e;exact hE hok
 | succ n ih=>
  obtain ⟨a,x,hx,h2⟩:=h;have E:Qs A d ⟨2,s,c,false⟩=.inl ⟨2,s,x,false⟩:=by
   unfold Qs;rw [if_neg ek,if_neg en,if_pos rfl,if_pos a,hx]
  exact .more (QaW z q s c) (Vp hzl hok rfl E) (ih h2 (Vn hzl hok rfl E).1)
theorem Qa1(pre M post:List Int)(hp:Qh pre)(hM:Qh M):field (bnum (pre++(M++post))) (8*pre.length) (8*M.length)=bnum M:=by
 have J:=Qb1 pre hp;have h2:=Qb1 M hM;rw [Qjv] at J h2;unfold field;rw [VX,Qjv,Nat.add_mul_div_left _ _ (Nat.two_pow_pos _),Nat.div_eq_of_lt J,Nat.zero_add,VX,Qjv,Nat.add_mul_mod_self_left,Nat.mod_eq_of_lt h2]
theorem QgN(V:Nat)(h:V<4294967296):bnum (QI V 4)=V:=by
 have e:QI V 4=[((V%256:Nat):Int),((V/256%256:Nat):Int),((V/65536%256:Nat):Int),((V/16777216%256:Nat):Int)]:=by
  simp [QI,List.range_succ]
 rw [e];simp only [bnum,Int.toNat_natCast];have:=Qhq V h;omega
theorem QhU:∀I,I<8->∀dc:Bool,QbD (zhd I dc/256+256*(zhd I dc%256))=false/\zsz (zhd I dc/256+256*(zhd I dc%256))=2^(I+8)/\Qcg (zhd I dc/256+256*(zhd I dc%256))=dc:=by decide
theorem QcG(I:Nat)(dc:Bool)(h:I<8):Qh [((zhd I dc/256:Nat):Int),((zhd I dc%256:Nat):Int)]:=by
 have:=Qf3 I dc dk;intro x hx;simp only [List.mem_cons,List.not_mem_nil,or_false] at hx;rcases hx with rfl|rfl<;>omega
def zh2(I:Nat)(dc:Bool):List Int:=[((zhd I dc/256:Nat):Int),((zhd I dc%256:Nat):Int)]
theorem Qha(I:Nat)(dc:Bool)(h:I<8)(R:List Int):field (bnum (zh2 I dc++R)) 0 16=zhd I dc/256+256*(zhd I dc%256):=by
 have J:=Qa1 [] (zh2 I dc) R (fun x hx=>by cases hx) (QcG I dc h);have e:bnum (zh2 I dc)=zhd I dc/256+256*(zhd I dc%256):=by
  show (((zhd I dc/256:Nat):Int)).toNat+256*((((zhd I dc%256:Nat):Int)).toNat+256*0)=_;rw [Int.toNat_natCast,Int.toNat_natCast];omega
 rw [e] at J;exact J
theorem QfM(I:Nat)(zs:List Int):zcode I [] zs=zh2 I false++(pk (Qr zs)++QI (rb4 (Adl.adl zs).toNat) 4):=by
 unfold zcode QcS;rw [if_pos rfl];rfl
theorem QdO(I:Nat)(d zs:List Int)(h:d≠[]):zcode I d zs=zh2 I true++(QI (rb4 (Adl.adl d).toNat) 4++(pk (Qr zs)++QI (rb4 (Adl.adl zs).toNat) 4)):=by
 unfold zcode QcS;rw [if_neg h,List.append_assoc];rfl
theorem QmN(zs:List Int):((rb4 (bnum (QI (rb4 (Adl.adl zs).toNat) 4)):Nat):Int)=Adl.adl zs:=by
 have h:=QcC zs;rw [QgN _ (Qkm _),Qp6 _ dk];omega
theorem Qbk(z q:Nat):VZ z q zc0≠none:=by
 unfold VZ zc0;simp
theorem Qkk(zs:List Int)(h:zs.length<=1000):(Qr zs).length<=10000:=ss
theorem QlE(I:Nat)(d zs:List Int)(h:zs.length<=1000):(zcode I d zs).length<=2000:=by
 have J:=Qkk zs h;have h2:=QaB<|Qr zs
 by_cases hd:d=[]
 ·rw [hd,QfM]
  exact iY
 ·rw [QdO I d zs hd]
  exact iY
theorem QgL(I:Nat)(d zs:List Int)(hI:I<8):Qh (zcode I d zs):=by
 have p:∀x y:List Int,Qh x->Qh y->Qh (x++y):=fun x y hx hy v hv=>by
  exact su
 by_cases hd:d=[]
 ·rw [hd,QfM]
  exact p _ _ (QcG I false hI) (p _ _ (QbN _ (Qaw zs)) (Qbw _ _))
 ·rw [QdO I d zs hd]
  exact p _ _ (QcG I true hI) (p _ _ (Qbw _ _) (p _ _ (QbN _ (Qaw zs)) (Qbw _ _)))
theorem QlG{s:Nat}{A e:List Int}(hl:A.length<=65536){c:IC}:∀n (x:IC),RTo s A n x c->ZOK A e ⟨2,s,x,false⟩->ZOK A e ⟨2,s,c,false⟩:=by
 intro n;induction n with
 | zero=>
  intro x h hx;have b:x=c:=h;rw [<-b];exact hx
 | succ n ih=>
  intro x h hx;obtain ⟨a,y,hy,h2⟩:=h;refine ih y h2 (Vn (c:=⟨2,s,x,false⟩) hl hx rfl ?_).1;exact sv
theorem Qho(z q s:Nat)(c:IC):VZ z q ⟨1,s,c,false⟩≠none:=by
 unfold VZ;simp
end
section
variable{zs d:List Int}{z q i s:Nat}{K:Int}{cz:ZC}
theorem QeH:∀(n:Nat) (r:RR) (x:Nat),r.2≠0->(hiN zs n r x).1=r:=by
 intro n;induction n with
 | zero=>intro r x h;rfl
 | succ n ih=>
  intro r x h;rw [hiN];have e:tk zs r 8=(r,0):=QaD h;rw [e];exact ih r _ h
theorem QdV:∀(n i:Nat) (x:Nat),¬i+8*n<=8*zs.length->i<=8*zs.length->(hiN zs n (i,0) x).1.2=2:=by
 intro n;induction n with
 | zero=>intro i x h h2;exact absurd dk h
 | succ n ih=>
  intro i x h h2;rw [hiN];by_cases h8:i+8<=8*zs.length
  ·rw [QG h8]
   exact ih (i+8) _ dk h8
  ·rw [Vm h8,QeH n (i,2) _ (show (2:Int)≠0 by decide)]
theorem Qht(h:16<=8*zs.length):hiN zs 2 (0,0) 0=((16,0),256*field (bnum zs) 0 8+field (bnum zs) 8 8):=by
 rw [hiN,QG dk,hiN,QG dk,hiN];show ((0+8+8,(0:Int)),256*(256*0+field (bnum zs) 0 8)+field (bnum zs) (0+8) 8)=_;simp only [Nat.mul_zero,Nat.zero_add]
theorem QiC(h:i+32<=8*zs.length):hiN zs 4 (i,0) 0=((i+32,0),rb4 (field (bnum zs) i 32)):=by
 have f0:=Q4 (bnum zs) i 8;have f1:=Q4 (bnum zs) (i+8) 8;have f2:=Q4 (bnum zs) (i+8+8) 8;have f3:=Q4 (bnum zs) (i+8+8+8) 8;have e:field (bnum zs) i 32=field (bnum zs) i 8+256*field (bnum zs) (i+8) 8+65536*field (bnum zs) (i+8+8) 8+16777216*field (bnum zs) (i+8+8+8) 8:=by
  rw [show (32:Nat)=8+(8+(8+8)) from rfl,Qbf,Qbf,Qbf];show _+256*(_+256*(_+256*_))=_;omega
 rw [hiN,QG dk,hiN,QG dk,hiN,QG dk,hiN,QG dk,hiN,e,QkH _ _ _ _ f0 f1 f2 f3];show ((i+8+8+8+8,(0:Int)),_)=_;congr 1;dsimp only;omega
theorem QoN:∀f:Nat,f<256->(bits .and .i64 ((f:Nat):Int) 32 != 0)=decide (f/32%2=1):=by decide+kernel
theorem QpC(h:16<=8*zs.length):QiK (hiN zs 2 (0,0) 0).2=QbD (field (bnum zs) 0 16)/\(QbD (field (bnum zs) 0 16)=false->szH (hiN zs 2 (0,0) 0).2=zsz (field (bnum zs) 0 16))/\Qe6 (hiN zs 2 (0,0) 0).2=Qcg (field (bnum zs) 0 16):=by
 rw [Qht h];dsimp only;have f0:field (bnum zs) 0 8<256:=Q4 (bnum zs) 0 8;have f1:field (bnum zs) 8 8<256:=Q4 (bnum zs) 8 8;have e:field (bnum zs) 0 16=field (bnum zs) 0 8+256*field (bnum zs) 8 8:=by
  rw [show (16:Nat)=8+8 from rfl,Qbf]
 rw [e];generalize field (bnum zs) 0 8=a at*;generalize field (bnum zs) 8 8=b at*;have e1:(a+256*b)%256=a:=dk;have e2:(a+256*b)/256=b:=dk;have q0:(256*a+b)/256=a:=dk;have q2:(256*a+b)/4096=a/16:=by rw [show (4096:Nat)=256*16 from rfl,<-Nat.div_div_eq_div_mul,q0]
 clear e;unfold QiK QbD szH zsz Qe6 Qcg;rw [e1,e2,QoN b f1];refine ⟨?_,fun hb=>?_,?_⟩
 ·rw [q0,q2]
 ·have h2:=of_decide_eq_false hb
  rw [q2,if_pos dk]
 ·congr 1
  have U:(256*a+b)/32=8*a+b/32:=dk;rw [U];have h6:(8*a+b/32)%2=b/32%2:=dk;rw [h6]
theorem QkX(r:RR):suP r false=r:=by unfold suP;rw [if_neg (fun x=>by cases x.2)]
theorem QfC(i:Nat):suP (i,0) true=(i,4):=by unfold suP;rw [if_pos ⟨rfl,rfl⟩]
theorem Qg7(zs:List Int)(i:Nat)(c:Int)(out:List Int)(h:c≠0):(Qcm zs (i,c) out).2=c:=by
 unfold Qcm;have e:alP (i,c)=(i,c):=by unfold alP;rw [if_neg h]
 rw [e,QeH 4 (i,c) 0 h];unfold suP;rw [if_neg (fun x=>h x.1)]
theorem QmV(hzl:zs.length<=65536){k:Int}{c c1:IC}(h:Vv s zs c k c1)(hW:Qag zs c)(hok:ZOK zs d ⟨2,s,c,false⟩):(k≠1->∃cf,Vo (VZ z q) (VR zs d) ⟨2,s,c,false⟩ k cf)/\(k=1->c1.st=16/\∃n,RTo s zs n c c1):=by
 obtain ⟨n,M⟩:=h;induction n generalizing c with
 | zero=>exact M.elim
 | succ n ih=>
  rcases M with ⟨J,rfl,rfl⟩|⟨J,E⟩|⟨J,c',E,h3⟩
  ·exact ⟨fun e=>absurd rfl e,fun _=>⟨iV,0,rfl⟩⟩
  ·refine ⟨fun _=>?_,fun e=>by have:=QO E;omega⟩
   have r:Qs zs d ⟨2,s,c,false⟩=.inr (k,if k=2 then ⟨2,s,c,false⟩ else ⟨2,s,c1,true⟩):=sw;exact ⟨_,.bad (QaW z q s c) (VA r)⟩
  ·have r:Qs zs d ⟨2,s,c,false⟩=.inl ⟨2,s,c',false⟩:=sw
   obtain ⟨a1,a2⟩:=ih (Qa3 hW J hzl E).1 (Vn hzl hok rfl r).1 h3;refine ⟨fun e=>?_,fun e=>?_⟩
   ·obtain ⟨cf,h4⟩:=a1 e
    exact ⟨cf,.more (QaW z q s c) (Vp hzl hok rfl r) h4⟩
   ·obtain ⟨h4,m,U⟩:=a2 e
    exact ⟨h4,m+1,.step J E U⟩
def Qfg(zs d:List Int)(K:Int):Prop:=∃k cf,Qh cf.u/\Vu (szH (hiN zs 2 (0,0) 0).2) zs [] (lastN (szH (hiN zs 2 (0,0) 0).2) (Qa9 zs d)).length k cf 7 (fun _=>True) (zR3 zs d) (lastN (szH (hiN zs 2 (0,0) 0).2) (Qa9 zs d))/\∀(i4:Nat) (c4:Int),(c4≠0->k=c4/\k≠1)->(c4=0->k=1/\cf.lc.i=i4)->(if (Qcm zs (i4,c4) cf.u).2=0 then 1 else (Qcm zs (i4,c4) cf.u).2)=K
theorem QmL(zs d:List Int):(zR3 zs d).1<=8*zs.length:=by
 unfold zR3;split
 ·rw [Qpf]
  exact QjU 4 _ _ (QjX zs)
 ·exact QjX zs
theorem Qel{c:Int}(hS:szH (hiN zs 2 (0,0) 0).2<=32768)(h:(zR3 zs d).2=c)(h0:c≠0)(h1:c≠1):Qfg zs d c:=by
 refine ⟨c,icA 0 [],(fun v hv=>d9),⟨⟨Nat.le_refl _,by rw [QC];show 0+_<=_;omega⟩,QmL zs d,fun _=>⟨h,h1,?_⟩,fun e=>absurd (h.symm.trans e) h0⟩,fun i4 c4 a1 a2=>?_⟩
 ·show []=_
  rw [List.drop_length];rfl
 ·by_cases I:c4=0
  ·exact absurd (a2 I).1 h1
  ·have e:=(a1 I).1
   subst e;rw [Qg7 zs i4 c _ I,if_neg I]
theorem QgW{t:List Int}(hz:Qh zs)(hd:Qh d)(hzl:zs.length<=65536)(hs:szH (hiN zs 2 (0,0) 0).2=s)(hs1:s<=32768)(h3:zR3 zs d=(i,0))(ht:lastN s (Qa9 zs d)=t)(hU:Qh (Qa9 zs d))(hok:ZOK zs d ⟨2,s,icA i t,false⟩)(hE:Vo (VZ z q) (VR zs d) ⟨2,s,icA i t,false⟩ K cz):Qfg zs d K:=by
 have hi:i<=8*zs.length:=by have h:=QmL zs d;rw [h3] at h;exact h
 have hW:=QdA zs t i hi;obtain ⟨k,b,hI⟩:=Vv.ex (s:=s) hzl _ (icA i t) hW (Nat.lt_succ_self _);have ah:=hI.octJ (K:=0) hz hzl hW ⟨(fun v hv=>d9),by show Qh t;rw [<-ht];exact Qbg s hU,by show 0+0<=_;omega⟩;refine ⟨k,b,ah,?_,fun i4 c4 a1 a2=>?_⟩
 ·rw [hs,ht,h3]
  have j:t.length<=s:=by rw [<-ht,QC];omega
  refine ⟨⟨Nat.le_refl _,lO⟩,hi,fun e=>absurd rfl e,fun _=>⟨icA i t,rfl,rfl,hW,?_,?_,hI,trivial⟩⟩
  ·show []=_
   rw [List.drop_length];rfl
  ·show t=_
   exact (QaI j).symm
 ·obtain ⟨b1,b2⟩:=QmV (z:=z) (q:=q) hzl hI hW hok
  by_cases hk:k=1
  ·have I:c4=0:=by
    by_cases I:c4=0
    ·exact I
    ·exact absurd hk (a1 I).2
   obtain ⟨_,aL⟩:=a2 I;subst I;obtain ⟨R,n,P⟩:=b2 hk;have a:=QlG hzl n _ P hok;have c:=(a.p2 rfl rfl).1;have r:∀k' cf',(Vo (VZ z q) (VR zs d) ⟨2,s,b,false⟩ k' cf')->K=k':=fun k' cf' h=>((Qpv hzl P hok (fun _=>h)).det hE).1.symm
   subst aL;have ar:b.lc.i<=8*zs.length:=c.le;have u:alP (b.lc.i,0)=((b.lc.i+7)/8*8,0):=jQ;by_cases M:(b.lc.i+7)/8*8+32<=8*zs.length
   ·have l:Qcm zs (b.lc.i,0) b.u=suP ((b.lc.i+7)/8*8+32,0) (decide (((rb4 (field (bnum zs) ((b.lc.i+7)/8*8) 32):Nat):Int)≠Adl.adl b.u)):=by unfold Qcm;rw [u,QiC M]
    by_cases I:((rb4 (field (bnum zs) ((b.lc.i+7)/8*8) 32):Nat):Int)=Adl.adl b.u
    ·have E:Qs zs d ⟨2,s,b,false⟩=.inl ⟨3,s,Vl b ((b.lc.i+7)/8*8+32),false⟩:=by
      unfold Qs;rw [if_neg ek,if_neg en,if_pos rfl,if_neg lP,if_pos sx,if_pos (by show ((rb4 (field (bnum zs) ((b.lc.i+7)/8*8) 32):Nat):Int)=_;exact I)]
     have:=r _ _ (.more (QaW z q s b) (Vp hzl a rfl E) (.fin (by unfold VZ;simp)));rw [this,l,decide_eq_false f6,QkX,if_pos rfl]
    ·have E:Qs zs d ⟨2,s,b,false⟩=.inr (4,⟨2,s,Vl b ((b.lc.i+7)/8*8+32),true⟩):=by
      unfold Qs;rw [if_neg ek,if_neg en,if_pos rfl,if_neg lP,if_pos sx,if_neg (by show ¬((rb4 (field (bnum zs) ((b.lc.i+7)/8*8) 32):Nat):Int)=_;exact I)]
     have:=r _ _ (.bad (QaW z q s b) (VA E));rw [this,l,decide_eq_true I,QfC,if_neg (show ¬(4:Int)=0 by decide)]
   ·have E:Qs zs d ⟨2,s,b,false⟩=.inr (2,⟨2,s,Vl b ((b.lc.i+7)/8*8),true⟩):=by
     unfold Qs;rw [if_neg ek,if_neg en,if_pos rfl,if_neg lP,if_neg (by show ¬(b.lc.i+7)/8*8+32<=_;exact M)]
    have:=r _ _ (.bad (QaW z q s b) (VA E));have h2:(hiN zs 4 ((b.lc.i+7)/8*8,0) 0).1.2=2:=QdV 4 _ 0 dk dk;have l:(Qcm zs (b.lc.i,0) b.u).2=2:=by
     unfold Qcm;rw [u];unfold suP;exact sA
    rw [this,l,if_neg dn]
  ·obtain ⟨m,h2⟩:=b1 hk
   have e:=(h2.det hE).1;by_cases I:c4=0
   ·exact absurd (a2 I).1 hk
   ·have e2:=(a1 I).1
    rw [Qg7 zs i4 c4 _ I,if_neg I,<-e,e2]
theorem Qqt(hz:Qh zs)(hd:Qh d)(hzl:zs.length<=65536)(hE:Vo (VZ z q) (VR zs d) zc0 K cz):Qfg zs d K:=by
 have f:=QfV zs d;have u:(hiN zs 2 (0,0) 0).2<65536:=Qn4 2 (0,0) 0 0 dn;have aa:=(QnV u).2;have g:∀(c:Int) (cf:ZC),Qs zs d zc0=.inr (c,cf)->(zR3 zs d).2=c->c≠0->c≠1->Qfg zs d K:=fun c cf h1 h2 h3 h4=>by
  have e:=((Vo.bad (Qbk z q) (VA h1)).det hE).1;rw [<-e];exact Qel aa h2 h3 h4
 by_cases M:16<=8*zs.length
 ·obtain ⟨q1,q2,q3⟩:=QpC M
  by_cases l:QbD (field (bnum zs) 0 16)=true
  ·have E:Qs zs d zc0=.inr (3,⟨0,0,Vl zc0.ic (0+16),true⟩):=by
    unfold Qs;rw [if_pos (show zc0.ph=0 from rfl),if_pos lQ,if_pos (by show QbD (field (bnum zs) 0 16)=true;exact l)];rfl
   refine g 3 _ E ?_ dn dn;have r2:zR2 zs=(16,3):=by unfold zR2;rw [q1,l,Qht M];rfl
   unfold zR3;split
   ·unfold diP
    rw [r2,QeH 4 (16,3) 0 dn,if_neg (fun x=>absurd x.1 dn)]
   ·rw [r2]
  ·have m:QbD (field (bnum zs) 0 16)=false:=by simpa using l
   have r2:zR2 zs=(16,0):=by unfold zR2;rw [q1,m,Qht M];rfl
   have D:=q2 m;have C:=QhJ m;by_cases I:Qcg (field (bnum zs) 0 16)=true
   ·have E:Qs zs d zc0=.inl ⟨1,zsz (field (bnum zs) 0 16),icA (0+16) [],false⟩:=by
     unfold Qs;rw [if_pos (show zc0.ph=0 from rfl),if_pos lQ,if_neg sB,if_pos (by show Qcg (field (bnum zs) 0 16)=true;exact I)];rfl
    have a:=(Vn hzl f rfl E).1;have r3:zR3 zs d=diP d (hiN zs 4 (16,0) 0):=by unfold zR3;rw [q3,if_pos I,r2]
    have hU:Qa9 zs d=d:=by unfold Qa9;rw [q3,if_pos I]
    have b:∀(c:Int) (cf:ZC),Qs zs d ⟨1,zsz (field (bnum zs) 0 16),icA (0+16) [],false⟩=.inr (c,cf)->(zR3 zs d).2=c->c≠0->c≠1->Qfg zs d K:=fun c cf h1 h2 h3 h4=>by
     have e:=((Vo.more (Qbk z q) (Vp hzl f rfl E) (Vo.bad (Qho z q _ _) (VA h1))).det hE).1;rw [<-e];exact Qel aa h2 h3 h4
    by_cases p:16+32<=8*zs.length
    ·rw [QiC p] at r3
     by_cases G:d=[]\/((rb4 (field (bnum zs) 16 32):Nat):Int)≠Adl.adl d
     ·refine b 5 ⟨1,zsz (field (bnum zs) 0 16),Vl (icA (0+16) []) (16+32),true⟩ ?_ ?_ dn dn
      ·unfold Qs
       rw [if_neg f9,if_pos (show (1:Nat)=1 from rfl),if_pos sC,if_pos (by show d=[]\/((rb4 (field (bnum zs) (0+16) 32):Nat):Int)≠Adl.adl d;exact G)];rfl
      ·rw [r3]
       unfold diP;rw [if_pos ⟨rfl,G.elim .inl (fun h=>.inr fun e=>h e.symm)⟩]
     ·have j:Qs zs d ⟨1,zsz (field (bnum zs) 0 16),icA (0+16) [],false⟩=.inl ⟨2,zsz (field (bnum zs) 0 16),icA (16+32) (lastN (zsz (field (bnum zs) 0 16)) d),false⟩:=by
       unfold Qs;rw [if_neg f9,if_pos (show (1:Nat)=1 from rfl),if_pos sC,if_neg (by show ¬(d=[]\/((rb4 (field (bnum zs) (0+16) 32):Nat):Int)≠Adl.adl d);exact G)];rfl
      have n:=(Vn hzl a rfl j).1;have o:zR3 zs d=(16+32,0):=by
       rw [r3];unfold diP;rw [if_neg (fun x=>G (x.2.elim .inl (fun h=>.inr fun e=>h e.symm)))]
      have k:Vo (VZ z q) (VR zs d) ⟨2,zsz (field (bnum zs) 0 16),icA (16+32) (lastN (zsz (field (bnum zs) 0 16)) d),false⟩ K cz:=(hE.next (Qbk z q) (Vp hzl f rfl E)).next (Qho z q _ _) (Vp hzl a rfl j);exact QgW hz hd hzl D C.2 o (by rw [hU]) (by rw [hU];exact hd) n k
    ·refine b 2 ⟨1,zsz (field (bnum zs) 0 16),icA (0+16) [],false⟩ ?_ ?_ dn dn
     ·unfold Qs
      rw [if_neg f9,if_pos (show (1:Nat)=1 from rfl),if_neg (by show ¬0+16+32<=8*zs.length;omega)]
     ·rw [r3]
      have h2:(hiN zs 4 (16,0) 0).1.2=2:=QdV 4 16 0 dk M;unfold diP;exact sA
   ·have E:Qs zs d zc0=.inl ⟨2,zsz (field (bnum zs) 0 16),icA 16 (lastN (zsz (field (bnum zs) 0 16)) []),false⟩:=by
     unfold Qs;rw [if_pos (show zc0.ph=0 from rfl),if_pos lQ,if_neg sB,if_neg (by show ¬Qcg (field (bnum zs) 0 16)=true;exact I)];rfl
    have a:=(Vn hzl f rfl E).1;have r3:zR3 zs d=(16,0):=by unfold zR3;rw [q3,if_neg I,r2]
    have hU:Qa9 zs d=[]:=by unfold Qa9;rw [q3,if_neg I]
    have k:=hE.next (Qbk z q) (Vp hzl f rfl E);exact QgW hz hd hzl D C.2 r3 (by rw [hU]) (by rw [hU];exact fun v hv=>d9) a k
 ·have E:Qs zs d zc0=.inr (2,zc0):=by
   unfold Qs;rw [if_pos (show zc0.ph=0 from rfl),if_neg (by show ¬0+16<=8*zs.length;omega)]
  refine g 2 _ E ?_ dn dn;have h2:(hiN zs 2 (0,0) 0).1.2=2:=QdV 2 0 0 dk (Nat.zero_le _);have r2:(zR2 zs).2=2:=by
   unfold zR2;obtain ⟨⟨s,i⟩,t,hx⟩:∃r H,hiN zs 2 (0,0) 0=(r,H):=⟨_,_,rfl⟩;rw [hx] at h2 ⊢;have e:i=2:=h2;subst e;rw [VH (show (2:Int)≠0 by decide)]
  unfold zR3;split
  ·have h3:(hiN zs 4 (zR2 zs) 0).1=zR2 zs:=QeH 4 _ 0 (by rw [r2];decide)
   unfold diP;rw [h3,r2,if_neg (fun x=>absurd x.1 dn),r2]
  ·exact r2
end
section
theorem Qnk(c:Nat)(x y:List Int):crcU (crcU c x) y=crcU c (x++y):=by
 unfold crcU;rw [Nat.xor_assoc,Nat.xor_self,Nat.xor_zero,Crc.cr_append]
theorem Qan(z q:Nat)(c:GC)(hb:c.bad=false):VD z q c≠none:=by
 unfold VD;rw [if_neg gc];split
 ·split<;>simp
 ·simp
structure GAt(zs:List Int)(z q:Nat)(k:Int)(cf:GC)(out:List Int)(nm ph:Nat)(P:GC->Prop)(r:RR):Prop where
 le:r.1<=8*zs.length
 ob:out.length<=100000
 oo:Qh out
 no:r.2≠0->QbG k cf=r.2/\r.2≠1
 yes:r.2=0->∃c,c.ph=ph/\c.ic.lc.i=r.1/\c.bad=false/\GOK zs c/\Vo (VD z q) (QT zs) c k cf/\c.ic.u=out/\c.nm=nm/\P c
section
variable {zs : List Int} {z q : Nat} {k : Int} {cf : GC} {out : List Int} {nm ph : Nat} {P : GC → Prop} {r : RR}
theorem GAt.off(h:GAt zs z q k cf out nm ph P r)(h0:r.2≠0)(ph':Nat)(P':GC->Prop):GAt zs z q k cf out nm ph' P' r:=⟨h.le,h.ob,h.oo,h.no,fun e=>absurd e h0⟩
theorem GAt.weak{P':GC->Prop}(h:GAt zs z q k cf out nm ph P r)(hp:∀c,P c->P' c):GAt zs z q k cf out nm ph P' r:=⟨h.le,h.ob,h.oo,h.no,fun e=>by obtain ⟨c,h1,h2,h3,h4,h5,h6,h7,h8⟩:=h.yes e;exact ⟨c,h1,h2,h3,h4,h5,h6,h7,hp c h8⟩⟩
theorem GAt.fail(h:GAt zs z q k cf out nm ph P r)(h0:r.2=0)(ph':Nat)(P':GC->Prop)(i':Nat)(hi:i'<=8*zs.length)(k2:Int)(hk0:k2≠0)(hk1:k2≠1)(hst:∀c,c.ph=ph->c.ic.lc.i=r.1->GOK zs c->c.nm=nm->P c->Qn zs c=.inr (k2,Qy c)/\(k2=2->¬(c.mm=0/\0<c.nm))):GAt zs z q k cf out nm ph' P' (i',k2):=by
 obtain ⟨c,J,h2,h3,h4,U,h6,h7,h8⟩:=h.yes h0;obtain ⟨E,hm⟩:=hst c J h2 h4 h7 h8;obtain ⟨e1,e2⟩:=(Vo.bad (Qan z q c h3) (Qbm E)).det U;refine ⟨hi,h.ob,h.oo,fun _=>⟨?_,hk1⟩,fun e=>absurd e hk0⟩;rw [<-e1,<-e2];unfold QbG;exact if_neg (fun x=>hm x.1 ⟨x.2.1,x.2.2⟩)
theorem GAt.go(h:GAt zs z q k cf out nm ph P r)(h0:r.2=0)(hz:Qh zs)(hzl:zs.length<=63)(ph':Nat)(P':GC->Prop)(i':Nat)(hst:∀c,c.ph=ph->c.ic.lc.i=r.1->GOK zs c->c.bad=false->c.ic.u=out->c.nm=nm->P c->∃c',Qn zs c=.inl c'/\c'.ph=ph'/\c'.ic.lc.i=i'/\c'.bad=false/\c'.ic.u=out/\c'.nm=nm/\P' c'):GAt zs z q k cf out nm ph' P' (i',0):=by
 obtain ⟨c,J,h2,h3,h4,U,h6,h7,h8⟩:=h.yes h0;obtain ⟨c',E,g1,g2,g3,g4,g5,g6⟩:=hst c J h2 h4 h3 h6 h7 h8;obtain ⟨A,bA⟩:=Qa6 hz hzl h4 h3 E;have ar:=A.le;rw [g2] at ar;exact ⟨ar,h.ob,h.oo,fun e=>absurd rfl e,fun _=>⟨c',g1,g2,g3,A,U.next (Qan z q c h3) (QaU hz hzl h4 h3 E),g4,g5,g6⟩⟩
def HP(zs:List Int)(f mm fl:Nat)(c:GC):Prop:=c.mm=mm/\c.fl=fl/\c.hs=crcU 0 ((zs.drop f).take (c.ic.lc.i/8-f))/\f<=c.ic.lc.i/8
theorem Qq9{f hs i n:Nat}(h:hs=crcU 0 ((zs.drop f).take (i/8-f)))(hf:f<=i/8)(h8:i%8=0):crcU hs ((zs.drop (i/8)).take n)=crcU 0 ((zs.drop f).take ((i+8*n)/8-f)):=by
 rw [h,Qnk];congr 1;have e:(i+8*n)/8-f=(i/8-f)+n:=dk;rw [e,List.take_add,List.drop_drop];congr 3;omega
theorem HP.adv{f mm fl:Nat}{c:GC}(h:HP zs f mm fl c)(h8:c.ic.lc.i%8=0)(n ph mm' fl' xs:Nat):HP zs f mm' fl' ⟨ph,mm',fl',xs,crcU c.hs ((zs.drop (c.ic.lc.i/8)).take n),c.st,c.nm,c.fr,Vl c.ic (c.ic.lc.i+8*n),c.bad⟩:=
 ⟨rfl,rfl,Qq9 h.2.2.1 h.2.2.2 h8,by have:=h.2.2.2;show f<=(c.ic.lc.i+8*n)/8;omega⟩
theorem Qf8(hz:Qh zs)(hzl:zs.length<=63){f m:Nat}(hm:m<=2)(h:GAt zs z q k cf out nm 0 (fun c=>HP zs f m 0 c/\(m=0->c.ic.lc.i<8*zs.length\/c.nm=0)) r):
  GAt zs z q k cf out nm (if m=2 then 1 else 0) (HP zs f (m+1) 0) (hdA zs r (gMk m)):=by
 unfold hdA;by_cases H:r.2=0
 ·obtain ⟨i,C⟩:=r
  have e:C=0:=H;subst e;by_cases M:i+8<=8*zs.length
  ·rw [QG M]
   dsimp only;by_cases V:field (bnum zs) i 8=gMk m
   ·rw [decide_eq_false (fun x=>x V),Qbb]
    refine h.go rfl hz hzl _ _ _ (fun c h1 h2 h3 h4 h5 h6 h7=>⟨{gAdv zs c 1 (if c.mm=2 then 1 else 0) with mm:=c.mm+1},?_,?_,?_,h4,h5,h6,?_⟩)
    ·unfold Qn
     rw [if_pos h1,h2,if_pos M,if_pos (by rw [h7.1.1];exact V)]
    ·show (if c.mm=2 then 1 else 0)=_
     rw [h7.1.1]
    ·show c.ic.lc.i+8*1=_
     rw [h2]
    ·have h8:=h3.al dk
     have:=h7.1.adv h8 1 (if c.mm=2 then 1 else 0) (m+1) 0 c.xs;have e1:=h7.1.1;have e2:=h7.1.2.1;subst e1;have R:({gAdv zs c 1 (if c.mm=2 then 1 else 0) with mm:=c.mm+1}:GC)=⟨if c.mm=2 then 1 else 0,c.mm+1,0,c.xs,crcU c.hs ((zs.drop (c.ic.lc.i/8)).take 1),c.st,c.nm,c.fr,Vl c.ic (c.ic.lc.i+8*1),c.bad⟩:=by
      rw [<-e2];rfl
     rw [R];exact this
   ·rw [decide_eq_true V,Qb0]
    refine h.fail rfl _ _ _ M 3 dn dn (fun c h1 h2 h3 h4 h5=>⟨?_,fun x=>absurd x dn⟩);unfold Qn;rw [if_pos h1,h2,if_pos M,if_neg (by rw [h5.1.1];exact V)]
  ·rw [Vm M]
   dsimp only;rw [VH (show (2:Int)≠0 by decide)];refine h.fail rfl _ _ _ h.le 2 dn dn (fun c h1 h2 h3 h4 h5=>⟨?_,fun _ x=>?_⟩)
   ·unfold Qn
    rw [if_pos h1,h2,if_neg M]
   ·have e:=h5.1.1
    rcases h5.2 (by rw [<-e];exact x.1) with h6|h6
    ·have h8:=h3.al dk
     omega
    ·omega
 ·rw [QaD H,VH H]
  exact eZ
theorem Qm2(hz:Qh zs)(hzl:zs.length<=63){f:Nat}(h:GAt zs z q k cf out nm 1 (HP zs f 3 0) r):GAt zs z q k cf out nm 2 (HP zs f 3 (tk zs r 8).2) (VJ (tk zs r 8).1 (decide (31<(tk zs r 8).2))):=by
 by_cases H:r.2=0
 ·obtain ⟨i,C⟩:=r
  have e:C=0:=H;subst e;by_cases M:i+8<=8*zs.length
  ·rw [QG M]
   dsimp only;by_cases V:31<field (bnum zs) i 8
   ·rw [decide_eq_true V,Qb0]
    refine h.fail rfl _ _ _ M 3 dn dn (fun c h1 h2 h3 h4 h5=>⟨?_,fun x=>absurd x dn⟩);unfold Qn;rw [if_neg dk,if_pos h1,h2,if_pos M,if_pos V]
   ·rw [decide_eq_false V,Qbb]
    refine h.go rfl hz hzl _ _ _ (fun c h1 h2 h3 h4 h5 h6 h7=>⟨{gAdv zs c 1 2 with fl:=field (bnum zs) i 8},?_,rfl,?_,h4,h5,h6,?_⟩)
    ·unfold Qn
     rw [if_neg dk,if_pos h1,h2,if_pos M,if_neg V]
    ·show c.ic.lc.i+8*1=_
     rw [h2]
    ·have h8:=h3.al dk
     have:=h7.adv h8 1 2 3 (field (bnum zs) i 8) c.xs;have e1:=h7.1;have R:({gAdv zs c 1 2 with fl:=field (bnum zs) i 8}:GC)=⟨2,3,field (bnum zs) i 8,c.xs,crcU c.hs ((zs.drop (c.ic.lc.i/8)).take 1),c.st,c.nm,c.fr,Vl c.ic (c.ic.lc.i+8*1),c.bad⟩:=by
      rw [<-e1];rfl
     rw [R];exact this
  ·rw [Vm M]
   dsimp only;rw [VH (show (2:Int)≠0 by decide)];refine h.fail rfl _ _ _ h.le 2 dn dn (fun c h1 h2 h3 h4 h5=>⟨?_,fun _ x=>?_⟩)
   ·unfold Qn
    rw [if_neg dk,if_pos h1,h2,if_neg M]
   ·have e:=h5.1
    omega
 ·rw [QaD H,VH H]
  exact eZ
theorem QhB(hz:Qh zs)(hzl:zs.length<=63){f fl n ph':Nat}(hp:ph≠10)(hs:∀c:GC,c.ph=ph->Qn zs c=if c.ic.lc.i+8*n<=8*zs.length then .inl (gAdv zs c n ph') else .inr (2,Qy c))(h:GAt zs z q k cf out nm ph (HP zs f 3 fl) r):GAt zs z q k cf out nm ph' (HP zs f 3 fl) (tk zs r (8*n)).1:=by
 by_cases H:r.2=0
 ·obtain ⟨i,C⟩:=r
  have e:C=0:=H;subst e;by_cases M:i+8*n<=8*zs.length
  ·rw [QG M]
   refine h.go rfl hz hzl _ _ _ (fun c h1 h2 h3 h4 h5 h6 h7=>⟨gAdv zs c n ph',?_,rfl,?_,h4,h5,h6,?_⟩)
   ·rw [hs c h1,h2,if_pos M]
   ·show c.ic.lc.i+8*n=_
    rw [h2]
   ·have:=h7.adv (h3.al dk) n ph' 3 fl c.xs
    have e1:=h7.1;have e2:=h7.2.1;have R:gAdv zs c n ph'=⟨ph',3,fl,c.xs,crcU c.hs ((zs.drop (c.ic.lc.i/8)).take n),c.st,c.nm,c.fr,Vl c.ic (c.ic.lc.i+8*n),c.bad⟩:=by
     rw [<-e1,<-e2];rfl
    rw [R];exact this
  ·rw [Vm M]
   refine h.fail rfl _ _ _ h.le 2 dn dn (fun c h1 h2 h3 h4 h5=>⟨?_,fun _ x=>?_⟩)
   ·rw [hs c h1,h2,if_neg M]
   ·have e:=h5.1
    omega
 ·rw [QaD H]
  exact eZ
theorem QrM:∀f:Nat,f<32->hfl ((f:Nat):Int) 4=decide (f/4%2=1):=by decide+kernel
theorem Qsa:∀f:Nat,f<32->hfl ((f:Nat):Int) 8=decide (f/8%2=1):=by decide+kernel
theorem Qr4:∀f:Nat,f<32->hfl ((f:Nat):Int) 16=decide (f/16%2=1):=by decide+kernel
theorem QrS:∀f:Nat,f<32->hfl ((f:Nat):Int) 2=decide (f/2%2=1):=by decide+kernel
theorem QoY{zs:List Int}:∀(n i:Nat),i+8*n<=8*zs.length->byN zs n (i,0)=(i+8*n,0):=by
 intro n;induction n with
 | zero=>intro i h;rfl
 | succ n ih=>
  intro i h;rw [byN,if_pos rfl,QG dk];show byN zs n (i+8,0)=_;rw [ih (i+8) dk];congr 1;omega
theorem QlA{zs:List Int}:∀(n i:Nat),i<=8*zs.length->¬i+8*n<=8*zs.length->(byN zs n (i,0)).2=2:=by
 intro n;induction n with
 | zero=>intro i J h;exact absurd J h
 | succ n ih=>
  intro i J h;rw [byN,if_pos rfl];by_cases M:i+8<=8*zs.length
  ·rw [QG M]
   exact ih (i+8) M dk
  ·rw [Vm M,QkW _ _ _ (show (2:Int)≠0 by decide)]
theorem Qmm(hz:Qh zs)(hzl:zs.length<=63){f fl:Nat}(h:GAt zs z q k cf out nm 5 (HP zs f 3 fl) r):GAt zs z q k cf out nm 7 (HP zs f 3 fl) (hdX zs fl r):=by
 unfold hdX;by_cases H:r.2=0
 ·obtain ⟨i,C⟩:=r
  have e:C=0:=H;subst e;by_cases hb:fl/4%2=1
  ·rw [if_pos hb]
   have hq:∀c:GC,GOK zs c->c.fl=fl->hfl (c.fl:Nat) 4=true:=fun c h1 h2=>by rw [QrM c.fl (by have:=h1.fl.1;omega),h2];exact decide_eq_true hb
   by_cases M:i+16<=8*zs.length
   ·rw [QG M]
    have h6:GAt zs z q k cf out nm 6 (fun c=>HP zs f 3 fl c/\c.xs=field (bnum zs) i 16) (i+16,0):=by
     refine h.go rfl hz hzl _ _ _ (fun c h1 h2 h3 h4 h5 h6 h7=>⟨{gAdv zs c 2 6 with xs:=field (bnum zs) i 16},?_,rfl,?_,h4,h5,h6,?_,rfl⟩)
     ·unfold Qn
      rw [if_neg dk,if_neg dk,if_neg dk,if_neg dk,if_neg dk,if_pos h1,if_pos (hq c h3 h7.2.1),h2,if_pos M]
     ·show c.ic.lc.i+8*2=_
      rw [h2]
     ·have:=h7.adv (h3.al dk) 2 6 3 fl (field (bnum zs) i 16)
      have e1:=h7.1;have e2:=h7.2.1;have R:({gAdv zs c 2 6 with xs:=field (bnum zs) i 16}:GC)=⟨6,3,fl,field (bnum zs) i 16,crcU c.hs ((zs.drop (c.ic.lc.i/8)).take 2),c.st,c.nm,c.fr,Vl c.ic (c.ic.lc.i+8*2),c.bad⟩:=by
       rw [<-e1,<-e2];rfl
      rw [R];exact this
    dsimp only;generalize field (bnum zs) i 16=n at h6 ⊢;have s:∀c:GC,c.ph=6->Qn zs c=if c.ic.lc.i+8*c.xs<=8*zs.length then .inl (gAdv zs c c.xs 7) else .inr (2,Qy c):=fun c h1=>by
     unfold Qn;rw [if_neg dk,if_neg dk,if_neg dk,if_neg dk,if_neg dk,if_neg dk,if_pos h1]
    by_cases d:i+16+8*n<=8*zs.length
    ·rw [QoY n (i+16) d]
     refine h6.go rfl hz hzl _ _ _ (fun c h1 h2 h3 h4 h5 h6 h7=>⟨gAdv zs c n 7,?_,rfl,?_,h4,h5,h6,?_⟩)
     ·have e5:=h7.2
      rw [s c h1,e5,h2,if_pos d]
     ·show c.ic.lc.i+8*n=_
      rw [h2]
     ·have:=h7.1.adv (h3.al dk) n 7 3 fl c.xs
      have e1:=h7.1.1;have e2:=h7.1.2.1;have R:gAdv zs c n 7=⟨7,3,fl,c.xs,crcU c.hs ((zs.drop (c.ic.lc.i/8)).take n),c.st,c.nm,c.fr,Vl c.ic (c.ic.lc.i+8*n),c.bad⟩:=by
       rw [<-e1,<-e2];rfl
      rw [R];exact this
    ·have ah:=QlA n (i+16) M d
     have K:=Qof (zs:=zs) n (i+16,0) M;generalize byN zs n (i+16,0)=Y at*;obtain ⟨F,y2⟩:=Y;have e:y2=2:=ah;subst e;refine h6.fail rfl _ _ _ K 2 dn dn (fun c h1 h2 h3 h4 h5=>⟨?_,fun _ x=>?_⟩)
     ·rw [s c h1,h5.2,h2,if_neg d]
     ·have e:=h5.1.1
      omega
   ·rw [Vm M]
    show GAt zs z q k cf out nm 7 (HP zs f 3 fl) (byN zs 0 (i,2));refine h.fail rfl _ _ _ h.le 2 dn dn (fun c h1 h2 h3 h4 h5=>⟨?_,fun _ x=>?_⟩)
    ·unfold Qn
     rw [if_neg dk,if_neg dk,if_neg dk,if_neg dk,if_neg dk,if_pos h1,if_pos (hq c h3 h5.2.1),h2,if_neg M]
    ·have e:=h5.1
     omega
  ·rw [if_neg hb]
   refine h.go rfl hz hzl _ _ _ (fun c h1 h2 h3 h4 h5 h6 h7=>⟨{c with ph:=7},?_,rfl,h2,h4,h5,h6,h7⟩);unfold Qn;rw [if_neg dk,if_neg dk,if_neg dk,if_neg dk,if_neg dk,if_pos h1,if_neg (by rw [QrM c.fl (by have:=h3.fl.1;omega),h7.2.1];simpa using hb)]
 ·have e:(if fl/4%2=1 then byN zs (tk zs r 16).2 (tk zs r 16).1 else r)=r:=by
   split
   ·rw [QaD H]
    rfl
   ·rfl
  rw [e];exact eZ
theorem Qix(hz:Qh zs)(hzl:zs.length<=63){f fl m:Nat}(hp:ph<=9)(hs:∀c:GC,c.ph=ph->GOK zs c->c.fl=fl->Qn zs c=if fl/m%2=1 then (if c.ic.lc.i+8<=8*zs.length then .inl (gAdv zs c 1 (if field (bnum zs) c.ic.lc.i 8=0 then ph+1 else ph)) else .inr (2,Qy c)) else .inl {c with ph:=ph+1})(h:GAt zs z q k cf out nm ph (HP zs f 3 fl) r):GAt zs z q k cf out nm (ph+1) (HP zs f 3 fl) (hdT zs fl m r):=by
 unfold hdT;by_cases hb:fl/m%2=1
 ·rw [if_pos hb]
  by_cases H:r.2=0
  ·obtain ⟨i,C⟩:=r
   have e:C=0:=H;subst e;have d:∀(n i:Nat),8*zs.length<i+8*n->GAt zs z q k cf out nm ph (HP zs f 3 fl) (i,0)->GAt zs z q k cf out nm (ph+1) (HP zs f 3 fl) (txN zs n (i,0)):=by
    intro n;induction n with
    | zero=>intro i J h2;have:=h2.le;exact absurd this (by show ¬i<=_;omega)
    | succ n ih=>
     intro i J h2;rw [txN,if_pos rfl];by_cases M:i+8<=8*zs.length
     ·rw [QG M]
      dsimp only;have bj:∀ph',(if field (bnum zs) i 8=0 then ph+1 else ph)=ph'->GAt zs z q k cf out nm ph' (HP zs f 3 fl) (i+8,0):=fun ph' hph=>by
       refine h2.go rfl hz hzl _ _ _ (fun c J h2 h3 h4 h5 h6 h7=>⟨gAdv zs c 1 ph',?_,rfl,?_,h4,h5,h6,?_⟩)
       ·rw [hs c J h3 h7.2.1,if_pos hb,h2,if_pos M,hph]
       ·show c.ic.lc.i+8*1=_
        rw [h2]
       ·have:=h7.adv (h3.al dk) 1 ph' 3 fl c.xs
        have e1:=h7.1;have e2:=h7.2.1;have R:gAdv zs c 1 ph'=⟨ph',3,fl,c.xs,crcU c.hs ((zs.drop (c.ic.lc.i/8)).take 1),c.st,c.nm,c.fr,Vl c.ic (c.ic.lc.i+8*1),c.bad⟩:=by
         rw [<-e1,<-e2];rfl
        rw [R];exact this
      by_cases V:field (bnum zs) i 8=0
      ·rw [if_pos V]
       exact bj _ (if_pos V)
      ·rw [if_neg V]
       exact ih (i+8) dk (bj _ (if_neg V))
     ·rw [Vm M]
      dsimp only;rw [if_pos rfl];refine h2.fail rfl _ _ _ h2.le 2 dn dn (fun c J h2 h3 h4 h5=>⟨?_,fun _ x=>?_⟩)
      ·rw [hs c J h3 h5.2.1,if_pos hb,h2,if_neg M]
      ·have e:=h5.1
       omega
   exact d _ i dk h
  ·rw [QkJ _ _ _ H]
   exact eZ
 ·rw [if_neg hb]
  by_cases H:r.2=0
  ·obtain ⟨i,C⟩:=r
   have e:C=0:=H;subst e;refine h.go rfl hz hzl _ _ _ (fun c J h2 h3 h4 h5 h6 h7=>⟨{c with ph:=ph+1},?_,rfl,h2,h4,h5,h6,h7⟩);rw [hs c J h3 h7.2.1,if_neg hb]
  ·exact eZ
def PG(out:List Int)(c:GC):Prop:=c.ic.st=7/\c.ic.t=[]/\c.fr=false/\c.st=out.length
theorem Qma(hz:Qh zs)(hzl:zs.length<=63){f fl:Nat}(h:GAt zs z q k cf out nm 9 (HP zs f 3 fl) r):GAt zs z q k cf out nm 10 (PG out) (hdC zs f fl r):=by
 unfold hdC hdS;have a:∀c:GC,c.ph=9->GOK zs c->c.fl=fl->Qn zs c=if fl/2%2=1 then (if c.ic.lc.i+16<=8*zs.length then if field (bnum zs) c.ic.lc.i 16=c.hs%65536 then .inl (gGo c (c.ic.lc.i+16)) else .inr (4,Qy c) else .inr (2,Qy c)) else .inl (gGo c c.ic.lc.i):=fun c h1 h2 h3=>by
  unfold Qn;rw [if_neg dk,if_neg dk,if_neg dk,if_neg dk,if_neg dk,if_neg dk,if_neg dk,if_neg dk,if_neg dk,if_pos h1,QrS c.fl (by have:=h2.fl.1;omega),h3];by_cases hb:fl/2%2=1
  ·rw [if_pos hb,if_pos (decide_eq_true hb)]
  ·rw [if_neg hb,if_neg gj]
 by_cases H:r.2=0
 ·obtain ⟨i,C⟩:=r
  have e:C=0:=H;subst e;by_cases hb:fl/2%2=1
  ·rw [if_pos ⟨hb,rfl⟩]
   dsimp only;by_cases M:i+16<=8*zs.length
   ·rw [QG M]
    dsimp only;by_cases V:field (bnum zs) i 16=crcU 0 ((zs.drop f).take (i/8-f))%65536
    ·rw [decide_eq_false (fun x=>x V),QkX]
     refine h.go rfl hz hzl _ _ _ (fun c h1 h2 h3 h4 h5 h6 h7=>⟨gGo c (i+16),?_,rfl,rfl,h4,h5,h6,rfl,rfl,rfl,?_⟩)
     ·have l:c.ic.lc.i=i:=h2
      rw [a c h1 h3 h7.2.1,if_pos hb,l,if_pos M,if_pos (by rw [h7.2.2.1,l];exact V)]
     ·show c.st=_
      rw [h3.st.2 dk,h5]
    ·rw [decide_eq_true V,QfC]
     refine h.fail rfl _ _ _ M 4 dn dn (fun c h1 h2 h3 h4 h5=>⟨?_,fun x=>absurd x dn⟩);have l:c.ic.lc.i=i:=h2;rw [a c h1 h3 h5.2.1,if_pos hb,l,if_pos M,if_neg (by rw [h5.2.2.1,l];exact V)]
   ·rw [Vm M]
    dsimp only;have e:∀b,suP (i,2) b=(i,2):=fun b=>lR
    rw [e];refine h.fail rfl _ _ _ h.le 2 dn dn (fun c h1 h2 h3 h4 h5=>⟨?_,fun _ x=>?_⟩)
    ·rw [a c h1 h3 h5.2.1,if_pos hb,h2,if_neg M]
    ·have e:=h5.1
     omega
  ·rw [if_neg (fun x=>hb x.1)]
   refine h.go rfl hz hzl _ _ _ (fun c h1 h2 h3 h4 h5 h6 h7=>⟨gGo c i,?_,rfl,rfl,h4,h5,h6,rfl,rfl,rfl,?_⟩)
   ·have l:c.ic.lc.i=i:=h2
    rw [a c h1 h3 h7.2.1,if_neg hb,l]
   ·show c.st=_
    rw [h3.st.2 dk,h5]
 ·rw [if_neg (fun x=>H x.2)]
  exact eZ
def P0(zs:List Int)(c:GC):Prop:=c.mm=0
theorem Qlb(hz:Qh zs)(hzl:zs.length<=63)(h:GAt zs z q k cf out nm 0 (P0 zs) r)(h0:r.2=0)(hx:r.1<8*zs.length\/nm=0):GAt zs z q k cf out nm 10 (PG out) (hdR zs r):=by
 obtain ⟨i,C⟩:=r;have e:C=0:=h0;subst e;have J:GAt zs z q k cf out nm 0 (fun c=>HP zs (i/8) 0 0 c/\(0=0->c.ic.lc.i<8*zs.length\/c.nm=0)) (i,0):=by
  refine ⟨h.le,h.ob,h.oo,h.no,fun e=>?_⟩;obtain ⟨c,g1,g2,g3,g4,g5,g6,g7,Y⟩:=h.yes e;have a:c.ic.lc.i=i:=g2;refine ⟨c,g1,g2,g3,g4,g5,g6,g7,⟨Y,g4.fl.2 dk,?_,dk⟩,fun _=>?_⟩
  ·rw [g4.hs0 g1 Y,a,Nat.sub_self,List.take_zero,Qjw]
  ·rw [a,g7]
   exact hx
 have h2:=Qf8 hz hzl (m:=0) dk J;have h3:=Qf8 hz hzl (m:=1) dk (h2.weak (fun c hc=>⟨hc,fun e=>absurd e dn⟩));have h4:=Qf8 hz hzl (m:=2) dk (h3.weak (fun c hc=>⟨hc,fun e=>absurd e dn⟩));have U:=Qm2 hz hzl h4;have h6:=QhB (n:=4) (ph':=3) hz hzl dk (fun c hc=>by
  unfold Qn;rw [if_neg dk,if_neg dk,if_pos hc]) U
 have h7:=QhB (n:=1) (ph':=4) hz hzl dk (fun c hc=>by
  unfold Qn;rw [if_neg dk,if_neg dk,if_neg dk,if_pos hc]) h6
 have h8:=QhB (n:=1) (ph':=5) hz hzl dk (fun c hc=>by
  unfold Qn;rw [if_neg dk,if_neg dk,if_neg dk,if_neg dk,if_pos hc]) h7
 have h9:=Qmm hz hzl h8;have u:=Qix (m:=8) hz hzl dk (fun c hc hok hfl=>by
  unfold Qn;rw [if_neg dk,if_neg dk,if_neg dk,if_neg dk,if_neg dk,if_neg dk,if_neg dk,if_pos hc,Qsa c.fl (by have:=hok.fl.1;omega),hfl];split
  ·rename_i hb
   rw [if_pos (of_decide_eq_true hb)]
  ·rename_i hb
   rw [if_neg gj]) h9
 have D:=Qix (m:=16) hz hzl dk (fun c hc hok hfl=>by
  unfold Qn;rw [if_neg dk,if_neg dk,if_neg dk,if_neg dk,if_neg dk,if_neg dk,if_neg dk,if_neg dk,if_pos hc,Qr4 c.fl (by have:=hok.fl.1;omega),hfl];split
  ·rename_i hb
   rw [if_pos (of_decide_eq_true hb)]
  ·rename_i hb
   rw [if_neg gj]) u
 exact Qma hz hzl D
end
end
end Go.Proofs.YtgginbpmebgkcaaGreatDoor
