import Derived.Test.YtgginbpmebgkcaaGreatDoorMAH
import Derived.Test.YtgginbpmebgkcaaGreatDoorMAI
import Derived.Test.YtgginbpmebgkcaaGreatDoorMAL
namespace Go.Proofs.YtgginbpmebgkcaaGreatDoor
open Go.RowKit
set_option maxRecDepth 100000
set_option maxHeartbeats 25600000
section
variable{i l j b X n:Nat}{zs:List Int}
def fs(f:Nat->Nat):Nat->Nat
 | 0=>0
 | 1=>0
 | l+2=>2*(fs f (l+1)+f (l+1))
def ln(zs:List Int)(i:Nat):Nat:=(zs.getD i 0).toNat
def num(zs:List Int)(i:Nat):Nat:=fs (cnt zs) (ln zs i)+cnt (zs.take i) (ln zs i)
def SS(zs:List Int)(l:Nat):Nat:=VC (fun m=>cnt zs m*2^(15-m)) l
theorem QeI(zs:List Int)(l:Nat):SS zs (l+1)=SS zs l+cnt zs (l+1)*2^(15-(l+1)):=rfl
theorem Qhn(zs:List Int){m:Nat}(h:l<=m):SS zs l<=SS zs m:=by
 induction h with
 | refl=>exact Nat.le_refl _
 | step _ ih=>exact Nat.le_trans ih (by rw [QeI];exact Nat.le_add_right _ _)
theorem QpY(zs:List Int):∀k,k<=14->fs (cnt zs) (k+1)*2^(14-k)=SS zs k
 | 0,_=>by simp [fs,SS,VC]
 | k+1,h=>by
  have ih:=QpY zs k dk
  have e:2^(14-k)=2*2^(14-(k+1)):=by rw [show 14-k=(14-(k+1))+1 by omega,Nat.pow_succ];omega
  rw [QeI,<-ih,show 15-(k+1)=14-k by omega,fs,<-Nat.add_mul,e,Nat.mul_comm 2 (fs _ _+_),Nat.mul_assoc]
theorem Qer(zs:List Int)(k l:Nat):cnt (zs.take k) l<=cnt zs l:=by
 unfold cnt;exact List.Sublist.countP_le<|List.take_sublist k zs
theorem Qio(zs:List Int)(hi:i<zs.length)(hl:zs.getD i 0=(l:Int)):cnt (zs.take (i+1)) l=cnt (zs.take i) l+1:=by
 rw [Vg zs i hi,QdE,if_pos hl]
theorem Qgm(zs:List Int)(l:Nat)(h:i<=j):cnt (zs.take i) l<=cnt (zs.take j) l:=by
 have e:zs.take i=(zs.take j).take i:=by rw [List.take_take,Nat.min_eq_left h]
 rw [e];exact Qer _ _ _
structure VQ(zs:List Int)(i:Nat):Prop where
 lt:i<zs.length
 is:zs.getD i 0=(ln zs i:Int)
 pos:1<=ln zs i
 most:ln zs i<=15
theorem VQ.of(ho:okL zs)(hi:i<zs.length)(h0:ln zs i≠0):VQ zs i:=by
 have h:=ho zs[i] (List.getElem_mem hi);have e:zs[i]=zs.getD i 0:=gu;rw [e] at h;unfold ln at h0;exact ⟨hi,by unfold ln;omega,by unfold ln;omega,by unfold ln;omega⟩
def bg(zs:List Int)(i:Nat):Nat:=num zs i*2^(15-ln zs i)
theorem QgJ(h:VQ zs i):bg zs i=SS zs (ln zs i-1)+cnt (zs.take i) (ln zs i)*2^(15-ln zs i):=by
 obtain ⟨k,hk⟩:∃k,ln zs i=k+1:=⟨ln zs i-1,jn⟩;have a:=h.most;have e:=QpY zs k dk;unfold bg num;rw [hk,Nat.add_mul,show 15-(k+1)=14-k by omega,e];rfl
theorem Qks(h:VQ zs i):bg zs i+2^(15-ln zs i)<=SS zs (ln zs i):=by
 have J:=Qio zs h.lt h.is;have h2:=Qer zs (i+1) (ln zs i);have h3:=QgJ h;obtain ⟨k,hk⟩:∃k,ln zs i=k+1:=⟨ln zs i-1,jn⟩;rw [hk] at J h2 h3 ⊢;rw [QeI,h3,show k+1-1=k by omega,Nat.add_assoc];refine Nat.add_le_add_left ?_ _;rw [<-Nat.succ_mul];exact Nat.mul_le_mul_right _ dk
def cov(zs:List Int)(i X:Nat):Prop:=VQ zs i/\bg zs i<=X/\X<bg zs i+2^(15-ln zs i)
theorem QhN(hi:cov zs i X)(hj:cov zs j X)(h:ln zs i<ln zs j\/(ln zs i=ln zs j/\i<j)):False:=by
 obtain ⟨a,i1,i2⟩:=hi;obtain ⟨b,l,m⟩:=hj;rcases h with h|⟨h,d⟩
 ·have J:=Qks a
  have h2:=QgJ b;have h3:=Qhn zs (show ln zs i<=ln zs j-1 by omega);omega
 ·have J:=QgJ a
  have h2:=QgJ b;have h3:=Qio zs a.lt a.is;have h4:=Qgm zs (ln zs i) (show i+1<=j by omega);rw [<-h] at h2;have U:(cnt (zs.take i) (ln zs i)+1)*2^(15-ln zs i)<=cnt (zs.take j) (ln zs i)*2^(15-ln zs i):=Nat.mul_le_mul_right _ dk;rw [Nat.succ_mul] at U;omega
theorem Qld(hi:cov zs i X)(hj:cov zs j X):i=j:=by
 rcases Nat.lt_trichotomy (ln zs i) (ln zs j) with h|h|h
 ·exact (QhN hi hj (.inl h)).elim
 ·rcases Nat.lt_trichotomy i j with h2|h2|h2
  ·exact (QhN hi hj (.inr ⟨h,h2⟩)).elim
  ·exact h2
  ·exact (QhN hj hi (.inr ⟨h.symm,h2⟩)).elim
 ·exact (QhN hj hi (.inl h)).elim
theorem kth(zs:List Int)(l:Nat):∀n k,n<=zs.length->k<cnt (zs.take n) l->∃i,i<n/\zs.getD i 0=(l:Int)/\cnt (zs.take i) l=k
 | 0,k,_,h=>by simp [cnt] at h
 | n+1,k,hn,h=>by
  rw [Vg zs n (by omega),QdE] at h
  by_cases hk:k<cnt (zs.take n) l
  ·obtain ⟨i,h1,h2,h3⟩:=kth zs l n k dk hk
   exact ⟨i,dk,h2,h3⟩
  ·by_cases he:zs.getD n 0=(l:Int)
   ·rw [if_pos he] at h
    exact ⟨n,dk,he,dk⟩
   ·rw [if_neg he] at h
    omega
theorem Qo1(zs:List Int)(X:Nat):∀l,l<=15->X<SS zs l->∃i,cov zs i X
 | 0,_,h=>by simp [SS,VC] at h
 | l+1,hl,h=>by
  by_cases h1:X<SS zs l
  ·exact Qo1 zs X l (by omega) h1
  ·rw [QeI] at h
   have hp:0<2^(15-(l+1)):=Nat.pos_of_ne_zero dr
   obtain ⟨q,hq⟩:∃q,q=(X-SS zs l)/2^(15-(l+1)):=⟨_,rfl⟩
   have hq1:q<cnt zs (l+1):=by
    rw [hq,Nat.div_lt_iff_lt_mul hp];omega
   obtain ⟨i,h2,h3,h4⟩:=kth zs (l+1) zs.length q (Nat.le_refl _) (by rw [List.take_length];exact hq1);have hln:ln zs i=l+1:=by unfold ln;rw [h3];rfl
   have hc:VQ zs i:=⟨h2,by rw [hln];exact h3,dk,dk⟩;refine ⟨i,hc,?_,?_⟩
   ·rw [QgJ hc,hln,h4,hq,show l+1-1=l by omega]
    have:=Nat.div_mul_le_self (X-SS zs l) (2^(15-(l+1)));omega
   ·rw [QgJ hc,hln,h4,hq,show l+1-1=l by omega]
    have:=Nat.lt_div_mul_add hp (a:=X-SS zs l);omega
theorem QrK(h:okL zs):SS zs 15=kr zs:=(Qnt zs h).symm
theorem Qoo(h:VQ zs i)(hk:SS zs 15<=32768):num zs i<2^ln zs i:=by
 have J:=Qks h;have h2:=Qhn zs h.most;have h3:bg zs i+2^(15-ln zs i)=(num zs i+1)*2^(15-ln zs i):=by unfold bg;rw [Nat.succ_mul]
 have h4:(2:Nat)^15=2^ln zs i*2^(15-ln zs i):=by rw [<-Nat.pow_add];congr 1;have:=h.most;omega
 have U:(num zs i+1)*2^(15-ln zs i)<=2^ln zs i*2^(15-ln zs i):=by rw [<-h3,<-h4];omega
 exact Nat.le_of_mul_le_mul_right U (Nat.pos_of_ne_zero dr)
theorem QbB(x l i:Nat):(tr x l).testBit i=if i<l then x.testBit (l-1-i) else false:=by
 rw [tr,Qia];split
 ·rfl
 ·exact Nat.zero_testBit _
theorem QjM(x l m:Nat)(h:l<=m):tr (x%2^m) l=tr x l:=by
 apply Nat.eq_of_testBit_eq;intro i;rw [QbB,QbB];split
 ·rw [Nat.testBit_mod_two_pow]
  simp;omega
 ·rfl
theorem Qjt{x:Nat}(h:x<2^l):tr (tr x l) l=x:=by
 apply Nat.eq_of_testBit_eq;intro i;rw [QbB];split
 ·rw [QbB,if_pos dk]
  congr 1;omega
 ·exact (Nat.testBit_lt_two_pow (Nat.lt_of_lt_of_le h (Nat.pow_le_pow_right dn dk))).symm
theorem Qqu(b l m:Nat)(h:l<=m):tr b m/2^(m-l)=tr b l:=by
 apply Nat.eq_of_testBit_eq;intro i;rw [<-Nat.shiftRight_eq_div_pow,Nat.testBit_shiftRight,QbB,QbB];by_cases hi:i<l
 ·rw [if_pos dk,if_pos hi]
  congr 1;omega
 ·rw [if_neg hi,if_neg dk]
theorem Qck(h:VQ zs i)(hk:SS zs 15<=32768)(b:Nat):b%2^ln zs i=tr (num zs i) (ln zs i)↔cov zs i (tr b 15):=by
 have hl:=Qoo h hk;have hd:=Qqu b (ln zs i) 15 h.most;have N:0<2^(15-ln zs i):=Nat.pos_of_ne_zero dr;have J:b%2^ln zs i=tr (num zs i) (ln zs i)↔tr b (ln zs i)=num zs i:=by
  constructor
  ·intro e
   rw [<-QjM b (ln zs i) (ln zs i) (Nat.le_refl _),e,Qjt hl]
  ·intro e
   have h2:b%2^ln zs i<2^ln zs i:=Nat.mod_lt _ (Nat.pos_of_ne_zero dr);rw [<-e,<-QjM b (ln zs i) (ln zs i) (Nat.le_refl _),Qjt h2]
 rw [J,<-hd];constructor
 ·intro e
  refine ⟨h,?_,?_⟩
  ·unfold bg;rw [<-e];exact Nat.div_mul_le_self _ _
  ·unfold bg;rw [<-e];exact Nat.lt_div_mul_add N
 ·rintro ⟨_,h3,h4⟩
  unfold bg at h3 h4;rw [<-Nat.succ_mul] at h4;exact Nat.le_antisymm (Nat.le_of_lt_succ ((Nat.div_lt_iff_lt_mul N).2 h4)) ((Nat.le_div_iff_mul_le N).2 h3)
theorem Qq3(x l m:Nat)(h:l<=m):tr x m%2^l=tr (x/2^(m-l)) l:=by
 apply Nat.eq_of_testBit_eq;intro i;rw [Nat.testBit_mod_two_pow,QbB,QbB];by_cases hi:i<l
 ·rw [if_pos dk,if_pos hi,<-Nat.shiftRight_eq_div_pow,Nat.testBit_shiftRight,decide_eq_true hi,Bool.true_and]
  congr 1;omega
 ·rw [if_neg hi,decide_eq_false hi,Bool.false_and]
theorem QcN(b l n:Nat)(h:l<=n):b%2^n%2^l=b%2^l:=Nat.mod_mod_of_dvd _ (Nat.pow_dvd_pow 2 h)
theorem Qmt(b n:Nat):tr (tr b n) n=b%2^n:=by
 rw [<-QjM b n n (Nat.le_refl _),Qjt (Nat.mod_lt _ (Nat.pos_of_ne_zero dr))]
theorem Qq7{a:Nat}(ha:a<2^l)(hb:b<2^l)(h:tr a l=tr b l):a=b:=by
 rw [<-Qjt ha,h,Qjt hb]
theorem QfU(h:cov zs i (tr (b%2^n) 15))(hk:SS zs 15<=32768)(hl:l<=n)(hi:l<=ln zs i):tr (num zs i) (ln zs i)%2^l=b%2^l:=by
 have J:=(Qck h.1 hk (b%2^n)).2 h;rw [<-J,Nat.mod_mod_of_dvd _ (Nat.pow_dvd_pow 2 hi)];exact QcN b l n hl
theorem QoH(b n:Nat)(hn:n<=15):tr (b%2^n) 15=tr b n*2^(15-n):=by
 apply Nat.eq_of_testBit_eq;intro i;rw [QbB,<-Nat.shiftLeft_eq,Nat.testBit_shiftLeft,QbB];by_cases hi:i<15
 ·rw [if_pos hi,Nat.testBit_mod_two_pow]
  by_cases h2:i>=15-n
  ·rw [decide_eq_true h2,Bool.true_and,if_pos dk,decide_eq_true dk,Bool.true_and]
   congr 1;omega
  ·rw [decide_eq_false h2,Bool.false_and,decide_eq_false dk,Bool.false_and]
 ·rw [if_neg hi,if_neg dk,Bool.and_false]
theorem QqS(hk:SS zs 15<=32768)(hn:n<=15)(hno:∀i,¬cov zs i (tr (b%2^n) 15))(h:VQ zs i)(hl:n<ln zs i):tr (num zs i) (ln zs i)%2^n≠b%2^n:=by
 intro e;have hX:¬tr (b%2^n) 15<SS zs 15:=fun hlt=>by
  obtain ⟨j,hj⟩:=Qo1 zs _ 15 (Nat.le_refl _) hlt;exact hno j hj
 have a:=h.most;rw [Qq3 _ _ _ dk] at e;have hq:num zs i/2^(ln zs i-n)<2^n:=by
  rw [Nat.div_lt_iff_lt_mul (Nat.pos_of_ne_zero dr),<-Nat.pow_add,show n+(ln zs i-n)=ln zs i by omega];exact Qoo h hk
 have e2:num zs i/2^(ln zs i-n)=tr b n:=by
  refine Qq7 hq ?_ ?_
  ·exact Qhb _ _
  ·rw [e,Qmt]
 have J:tr b n*2^(ln zs i-n)<=num zs i:=by rw [<-e2];exact Nat.div_mul_le_self _ _
 have h2:tr b n*2^(15-n)<=bg zs i:=by
  unfold bg;rw [show 15-n=(ln zs i-n)+(15-ln zs i) by omega,Nat.pow_add,<-Nat.mul_assoc];exact Nat.mul_le_mul_right _ J
 have h3:=Qks h;have h4:=Qhn zs a;have U:0<2^(15-ln zs i):=Nat.pos_of_ne_zero dr;rw [QoH b n hn] at hX;omega
def Ans(zs:List Int)(b n:Nat)(k s l:Nat):Prop:=
 (∃i,cov zs i (tr (b%2^n) 15)/\ln zs i<=n/\k=1/\s=i/\l=ln zs i)\/(∃i,cov zs i (tr (b%2^n) 15)/\n<ln zs i/\k=2/\s=0/\l=0)\/((∀i,¬cov zs i (tr (b%2^n) 15))/\k=0/\s=0/\l=0)
end
end Go.Proofs.YtgginbpmebgkcaaGreatDoor
namespace Go.Proofs.YtgginbpmebgkcaaGreatDoor
open Go.RowKit Go.Proofs.Tryz
attribute [local go_sem ↓] Go.wp_at_zero Go.wp_at_succ
set_option linter.unusedVariables false
set_option maxRecDepth 100000
set_option maxHeartbeats 25600000
section
theorem nt{P:Prop}(h:P:=by clear a9;go_wp2_with fail;go_meet;exact ⟨congrArg Value.bool HD.u.symm,rfl⟩):P:=h
variable{w w':World}{p:Nat}{a b c:Int}{zs:List Int}
theorem Qn5(f:Nat->Nat):∀l,fs f l=fst f l
 | 0=>rfl
 | 1=>rfl
 | l+2=>by rw [fs,fst,Qn5 f (l+1)]
theorem Qd1(zs:List Int)(i:Nat):code zs i=if ln zs i=0 then (0,0) else (ln zs i,tr (num zs i) (ln zs i)):=by
 unfold code num ln;rw [Qn5]
theorem Qh5(h:okC zs=true):okL zs/\zs.length<=320/\SS zs 15<=32768:=by
 simp only [okC,Bool.and_eq_true,decide_eq_true_eq] at h;obtain ⟨J,h2⟩:=h;obtain ⟨h3,h4⟩:=Qcl J;refine ⟨h4,h3,?_⟩;rw [QrK h4];rw [hk,J,if_pos rfl,Qdx] at h2;by_cases O:nz zs=0
 ·have:=(Qi5 zs h4 O).1
  omega
 ·rw [if_neg O] at h2
  by_cases k0:32768<kr zs
  ·rw [if_pos k0] at h2;omega
  ·omega
def QdF(w:World)(p:Nat)(a b c:Int):Prop:=
 w.cell? ⟨p,0,none⟩=some (.int .i64 a)/\w.cell? ⟨p,1,none⟩=some (.int .i64 b)/\w.cell? ⟨p,2,none⟩=some (.int .i64 c)/\
  w.frozen? ⟨p,0,none⟩=false/\w.frozen? ⟨p,1,none⟩=false/\w.frozen? ⟨p,2,none⟩=false
theorem QfW(w:World)(a b c:Int)(t:TypeId):QdF (w.alloc (.cells #[.int .i64 a,.int .i64 b,.int .i64 c] t)) w.heap.size a b c:=by
 simp [QdF,go_sem]
theorem QdF.lt(h:QdF w p a b c):p<w.heap.size:=World.block_lt_of_cell? w _ h.1
theorem QdF.grown{row:Option Nat}(h:QdF w p a b c)(hg:w.grownBy w' row)(hne:some p≠row):QdF w' p a b c:=by
 have e:=hg.block p h.lt hne;obtain ⟨J,h2,h3,f1,f2,f3⟩:=h;exact ⟨(World.cell?_of_block (w:=w) e).trans J,(World.cell?_of_block (w:=w) e).trans h2,(World.cell?_of_block (w:=w) e).trans h3,
  (World.frozen?_of_block (w:=w) e).trans f1,(World.frozen?_of_block (w:=w) e).trans f2,(World.frozen?_of_block (w:=w) e).trans f3⟩
theorem QdF.below(h:QdF w p a b c)(hb:Below w.heap.size w w'):QdF w' p a b c:=h.grown (Qk hb none) dr
theorem QaE(h:QdF w p a b c)(a' b' c':Int):
  QdF (((w.setCell ⟨p,0,none⟩ (.int .i64 a')).setCell ⟨p,1,none⟩ (.int .i64 b')).setCell ⟨p,2,none⟩ (.int .i64 c')) p a' b' c'/\
   w.grownBy (((w.setCell ⟨p,0,none⟩ (.int .i64 a')).setCell ⟨p,1,none⟩ (.int .i64 b')).setCell ⟨p,2,none⟩ (.int .i64 c')) (some p):=by
 obtain ⟨C,c1,c2,f0,f1,f2⟩:=h;refine ⟨⟨?_,?_,?_,?_,?_,?_⟩,?_⟩
 ·exact mD
 ·rw [World.cell?_setCell_other _ _ _ _ dr,World.cell?_setCell_same _ _ _ (u:=.int .i64 b) mE]
 ·rw [World.cell?_setCell_same _ _ _ (u:=.int .i64 c) mF]
 ·exact fE
 ·exact fF
 ·exact fG
 ·exact mG
def Qjc(zs:List Int)(b l k:Nat):Prop:=∃s,s<k/\VQ zs s/\l<ln zs s/\tr (num zs s) (ln zs s)%2^l=b%2^l
theorem Ans.bad{b n:Nat}(h:∀i,¬cov zs i (tr (b%2^n) 15)):Ans zs b n 0 0 0:=.inr (.inr ⟨h,rfl,rfl,rfl⟩)
theorem QkC(zs:List Int)(ao:Option Addr)(cap b n:Nat)(w:World)(hR:Qba w ao zs.length (code zs))(hok:okC zs=true)(hb:b<2^64)(hn:n<=64):
  Calls prog 164 #[.slice ao zs.length cap,.int .u64 b,.int .i64 n] w fun e w'=>(∃k s l:Nat,e=.returned (.agg #[.int .i64 k,.int .i64 s,.int .i64 l])/\Ans zs b n k s l)/\Below w.heap.size w w':=by
 obtain ⟨aq,ay,ai⟩:=Qh5 hok;have a4:=Qg aq;have M:=Qg ai;have HR:=Qg hR;refine ns ?_;intro al av D;clear aq ai hR al hok;go_enter func164,ntmps164;go_wp2_with fail;go_loopw [7] (fun i wr=>∃l:Nat,l<=15/\l<=n+1/\i=.int .i64 l/\dm (∀i,cov zs i (tr (b%2^n) 15)->l<=ln zs i)/\dm (l=0\/Qjc zs b (l-1) zs.length)/\QdF wr w.heap.size 0 0 0/\Below w.heap.size w wr) (fun i _=>16-(intOf i).toNat)
 case atStart=>exact ⟨0,dk,dk,rfl,(fun i _=>Nat.zero_le _),(.inl rfl),D.u,av.u⟩
 case round=>
  clear D av;obtain ⟨l,aC,aw,rfl,HC,HG,h3,a⟩:=hrel;by_cases ar:l<=n
  ·obtain ⟨P,hP⟩:=dt (2^l)
   have K:0<P:=hP▸Nat.pos_of_ne_zero dr;have ad:P<=32768:=hP▸Nat.le_trans (Nat.pow_le_pow_right dn aC) dn;have af:=Qg (fun W=>QaN l P dk hP W);obtain ⟨j,V⟩:=dt (b%P);have S:((b:Int)%(P:Int))=(j:Int):=by rw [<-V];exact (Int.natCast_emod b P).symm
   have z:=Qg hP;have aJ:=Qg V;have H3:=Qg h3;have O:=Qg a;clear hP V h3 a;go_wp2_with fail;refine Calls.mono (af.u _) ?_;rintro e w1 ⟨rfl,rfl⟩;go_wp2_with fail;rw [S];clear S;go_loopw [9,10] (fun bg i wy=>∃(k:Nat) (B:Bool),k<=zs.length/\i=.int .i64 k/\bg=.bool B/\dm (B=true↔Qjc zs b l k)/\dm (∀s,s<k->VQ zs s->ln zs s=l->¬tr (num zs s) (ln zs s)=b%2^l)/\QdF wy w.heap.size 0 0 0/\Below w.heap.size w wy) (fun _ i _=>zs.length-(intOf i).toNat)
   case atStart=>
    refine ⟨0,false,Nat.zero_le _,rfl,rfl,?_,(fun s E=>dk),H3.u,O.u⟩;exact ⟨(fun h=>ep),(fun ⟨s,E,_⟩=>dk)⟩
   case round=>
    clear H3 O;obtain ⟨k,B,hk,rfl,rfl,y,a7,h3,a⟩:=hrel;by_cases ab:k<zs.length
    ·obtain ⟨g,rfl,f⟩:=HR.u dk
     have A:=f.grown (Qk a none) dr;have C:=A.at0 k ab;have c1:=A.at1 k ab;have e1:(code zs k).1=ln zs k:=by rw [Qd1];split<;>simp_all
     have e2:ln zs k≠0->(code zs k).2=tr (num zs k) (ln zs k):=by intro h;rw [Qd1,if_neg h]
     rw [e1] at C;obtain ⟨Y,hY⟩:=dt ((code zs k).2);obtain ⟨X,hX⟩:=dt (ln zs k);rw [hX] at C e2;rw [hY] at c1 e2;have ag:X<=15:=by
      by_cases H:ln zs k=0
      ·omega
      ·have:=(VQ.of a4.u ab H).most;omega
     have c:=Qg hX;have x:=Qg e2;have H3:=Qg<|h3.below ((Below.refl _ _).alloc (Nat.le_refl _) (.cells #[.int .i64 X,.int .u64 Y] 118))
     have O:=Qg<|a.alloc a.size (.cells #[.int .i64 X,.int .u64 Y] 118)
     have ax:(k:Int)<(zs.length:Int):=dk;clear f A e1 e2 hY hX h3 a;go_upto_region 10 with fail;have p0:(wr.alloc (.cells #[.int .i64 X,.int .u64 Y] 118)).cell? ⟨wr.heap.size,0,none⟩=some (.int .i64 X):=dF;have p1:(wr.alloc (.cells #[.int .i64 X,.int .u64 Y] 118)).cell? ⟨wr.heap.size,1,none⟩=some (.int .u64 Y):=dF;clear C c1;generalize wr.alloc (.cells #[.int .i64 X,.int .u64 Y] 118)=w5 at*;go_cut [46] from 22 to 66 (fun v wx=>v=.bool (decide (X=l/\0<X/\Y=j))/\wx=w5)
     case first=>
      by_cases a9:X=l
      ·have b1:((X:Int) == (l:Int))=true:=du
       by_cases H:0<X
       ·have HD:dm (((Y:Int) == (j:Int))=decide (X=l/\0<X/\Y=j)):=by
         show _=_;rw [Bool.eq_iff_iff];simp;omega
        clear a9;go_wp2_with fail;go_meet;exact ⟨congrArg Value.bool HD.u,rfl⟩
       ·have HD:=Qg<|decide_eq_false (p:=X=l/\0<X/\Y=j) (fun h=>H h.2.1)
        exact nt
      ·have b1:((X:Int) == (l:Int))=false:=du
       have HD:=Qg<|decide_eq_false (p:=X=l/\0<X/\Y=j) (fun h=>a9 h.1)
       exact nt
     case rest=>
      obtain ⟨rfl,R⟩:=hcut;subst R;by_cases hM:X=l/\0<X/\Y=j
      ·have bu:decide (X=l/\0<X/\Y=j)=true:=decide_eq_true hM
       have HA:dm (Ans zs b n 1 k l):=by
        have an:ln zs k≠0:=by rw [c.u];omega
        have L:=VQ.of a4.u ab an;have aa:ln zs k=l:=by rw [c.u];exact hM.1
        have I:cov zs k (tr (b%2^n) 15):=by
         refine (Qck L M.u (b%2^n)).1 ?_;rw [QcN _ _ _ (by rw [aa];exact ar),c.u,<-x.u dk,hM.2.2,<-aJ.u,hM.1,z.u]
        exact .inl ⟨k,I,dk,rfl,rfl,aa.symm⟩
       rw [bu];obtain ⟨k3,k4⟩:=QaE H3.u 1 (k:Int) (l:Int);obtain ⟨r0,r1,r2,f0,f1,f2⟩:=H3.u;have ae:=O.u.grown k4 O.u.size ef;obtain ⟨y0,F,y2,_⟩:=k3;clear k4 HC HG hM bu y a7;go_wp2_with fail;exact bodyPost_ret (v:=.agg #[.int .i64 1,.int .i64 k,.int .i64 l]) ju rfl ⟨⟨1,k,l,rfl,HA.u⟩,ae⟩
      ·have bu:decide (X=l/\0<X/\Y=j)=false:=decide_eq_false hM
       have r:dm (∀s,s<k+1->VQ zs s->ln zs s=l->¬tr (num zs s) (ln zs s)=b%2^l):=by
        intro s E L Q;by_cases T:s=k
        ·subst T
         intro he;apply hM;have hX:X=l:=by rw [<-c.u];exact Q
         have N:=L.pos;refine ⟨hX,dk,?_⟩;rw [x.u dk,<-c.u,he,<-aJ.u,z.u]
        ·exact a7.u s dk L Q
       have d:dm ((B || decide (l<X/\Y%P=j))=true↔Qjc zs b l (k+1)):=by
        show _↔_;rw [Bool.or_eq_true,decide_eq_true_eq,y.u];constructor
        ·rintro (⟨s,J,h2⟩|⟨J,h2⟩)
         ·exact ⟨s,dk,h2⟩
         ·have an:ln zs k≠0:=by rw [c.u];omega
          refine ⟨k,dk,VQ.of a4.u ab an,by rw [c.u];exact J,?_⟩;rw [c.u,<-x.u dk,z.u,h2,<-aJ.u]
        ·rintro ⟨s,J,h2,h3,h4⟩
         by_cases T:s=k
         ·subst T
          right;rw [c.u] at h3;refine ⟨h3,?_⟩;rw [x.u dk,<-c.u,<-z.u,h4,<-aJ.u,z.u]
         ·left
          exact ⟨s,dk,h2,h3,h4⟩
       rw [bu];clear hM bu y a7;cases B with
       | true=>
        have t:dm (true=true↔Qjc zs b l (k+1)):=by
         show _↔_;rw [<-d.u];simp
        go_upto_region 12 with fail;go_quiet (fail);have o:=H3.u.below<|Qo _ _ nq
        have a8:=O.u.trans<|Qo _ _ nq
        clear H3 O d;go_wp2_with fail;go_roundw
        case rel=>exact ⟨k+1,true,dk,dw,rfl,t,r,o,a8⟩
        case measure=>simp [intOf];omega
       | false=>
        by_cases aX:l<X
        ·obtain ⟨Z,hZ⟩:=dt (Y%P)
         have au:((Y:Int)%(P:Int))=(Z:Int):=by rw [<-hZ];exact (Int.natCast_emod Y P).symm
         have t:dm (((Z:Int) == (j:Int))=true↔Qjc zs b l (k+1)):=by
          show _↔_;rw [<-d.u,hZ];simp [aX,Int.ofNat_inj]
         have b3:Z<P:=by rw [<-hZ];exact Nat.mod_lt _ K
         have a2:Y<32768:=by
          rw [x.u dk];exact Nat.lt_of_lt_of_le (Qhb _ _) (Nat.le_trans (Nat.pow_le_pow_right dn ag) dn)
         have a1:¬P=0:=dk;have a0:IntKind.u64.wrap (P:Int)=(P:Int):=dN;have az:(Y:Int).tmod (P:Int)=(Z:Int):=by rw [Int.tmod_eq_emod_of_nonneg dk];exact au
         clear hZ d;go_upto_region 12 with fail;go_region_held3 (fun w'=>w'.cell? ⟨wr.heap.size,0,none⟩=some (.int .i64 X)/\w'.cell? ⟨wr.heap.size,1,none⟩=some (.int .u64 Y))
          (first|(refine ⟨?_,?_⟩<;>with_reducible assumption)|(go_keep;done))
          ((go_at_call 41;refine Calls.mono (af.u _) ?_;rintro e w7 ⟨rfl,rfl⟩))
         have o:=H3.u.below<|(Below.refl _ _).drew
         have a8:=O.u.trans<|((Below.refl _ _).drew).mono O.u.size
         clear H3 O;go_wp2_with fail;go_roundw
         case rel=>exact ⟨k+1,((Z:Int) == (j:Int)),dk,dw,rfl,t,r,o,a8⟩
         case measure=>simp [intOf];omega
        ·have t:dm (false=true↔Qjc zs b l (k+1)):=by
          show _↔_;rw [<-d.u];simp [aX]
         clear d;go_upto_region 12 with fail;go_quiet (fail);have o:=H3.u.below<|Qo _ _ nq
         have a8:=O.u.trans<|Qo _ _ nq
         clear H3 O;go_wp2_with fail;go_roundw
         case rel=>exact ⟨k+1,false,dk,dw,rfl,t,r,o,a8⟩
         case measure=>simp [intOf];omega
    ·have e:k=zs.length:=dk
     have m:dm (B=true↔Qjc zs b l zs.length):=by rw [<-e];exact y.u
     have ak:dm (∀s,VQ zs s->ln zs s=l->¬tr (num zs s) (ln zs s)=b%2^l):=fun s E h=>a7.u s (by have:=E.lt;omega) E h
     have u:dm (∀i,cov zs i (tr (b%2^n) 15)->l+1<=ln zs i):=by
      intro i hi;have J:=HC.u i hi;have h2:ln zs i≠l:=fun h=>by
       have h3:=QfU hi M.u ar (by omega:l<=ln zs i);rw [<-h,Nat.mod_eq_of_lt (Qhb _ _)] at h3;exact ak.u i hi.1 h (by rw [h3,h])
      omega
     clear y a7 e;cases B with
     | true=>
      have U:=m.u.1 rfl;have ah:l+1<=15:=by
       obtain ⟨s,_,J,h2,_⟩:=U;have:=J.most;omega
      have G:dm (l+1=0\/Qjc zs b (l+1-1) zs.length):=.inr U;clear U m;go_wp2_with fail;go_roundw
      case rel=>exact ⟨l+1,ah,dk,dw,u,G,h3,a⟩
      case measure=>simp [intOf];omega
     | false=>
      have HA:dm (Ans zs b n 0 0 0):=by
       refine Ans.bad (fun i hi=>?_);have J:=u.u i hi;have h2:=m.u.2 ⟨i,hi.1.lt,hi.1,dk,QfU hi M.u ar dk⟩;cases h2
      obtain ⟨k3,k4⟩:=QaE h3 0 0 0;obtain ⟨r0,r1,r2,f0,f1,f2⟩:=h3;have ae:=a.grown k4 a.size ef;obtain ⟨y0,F,y2,_⟩:=k3;clear k4 HC HG m u;go_wp2_with fail;exact bodyPost_ret (v:=.agg #[.int .i64 0,.int .i64 0,.int .i64 0]) ju rfl ⟨⟨0,0,0,rfl,HA.u⟩,ae⟩
  ·have HA:dm (Ans zs b n 2 0 0):=by
    have hl:l=n+1:=dk;rcases HG.u with H|H
    ·omega
    ·refine .inr (.inl ?_)
     rw [hl,Nat.add_sub_cancel] at H;by_cases aj:∃i,cov zs i (tr (b%2^n) 15)
     ·obtain ⟨i,hi⟩:=aj
      have:=HC.u i hi;exact ⟨i,hi,dk,rfl,rfl,rfl⟩
     ·obtain ⟨s,_,E,J,h2⟩:=H
      exact (QqS M.u dk (fun i hi=>aj ⟨i,hi⟩) E J h2).elim
   obtain ⟨k3,k4⟩:=QaE h3 2 0 0;obtain ⟨r0,r1,r2,f0,f1,f2⟩:=h3;have ae:=a.grown k4 a.size ef;obtain ⟨y0,F,y2,_⟩:=k3;clear k4 HC HG;go_wp2_with fail;exact bodyPost_ret (v:=.agg #[.int .i64 2,.int .i64 0,.int .i64 0]) ju rfl ⟨⟨2,0,0,rfl,HA.u⟩,ae⟩
end
section
variable{zs:List Int}{b:Nat}
def Qa8(zs:List Int)(b:Nat)(n:Int)(k s l:Nat):Prop:=
 if okC zs=true/\0<=n/\n<=64 then Ans zs b n.toNat k s l else k=0/\s=0/\l=0
theorem Qa8.yes{k s l:Nat}{n:Nat}(h1:okC zs=true)(h2:n<=64)(h:Ans zs b n k s l):Qa8 zs b n k s l:=by
 unfold Qa8;rw [if_pos ⟨h1,dk,dk⟩];exact h
theorem Qa8.no{n:Int}(h:¬(okC zs=true/\0<=n/\n<=64)):Qa8 zs b n 0 0 0:=by
 unfold Qa8;rw [if_neg h];exact fI
end
section
variable{w w':World}{g o n m k:Nat}{F:Nat->Nat×Nat}
theorem Qch{B:Nat}{e:TypeId}{v:Value}{xs:List Value}(h:w.ownsRow B e k v n xs)(hb:Below w.heap.size w w'):w'.ownsRow B e k v n xs:=
 h.kept (Qk hb none) (by cases hv:v.ownBlock<;>simp)
structure Qaz(w:World)(g o n:Nat)(F:Nat->Nat×Nat):Prop where
 lt:g<w.heap.size
 at0:∀i,i<n->w.cell? ⟨g,o+i*2,none⟩=some (.int .i8 ((F i).1:Nat))
 at1:∀i,i<n->w.cell? ⟨g,o+i*2+1,none⟩=some (.int .i16 ((F i).2:Nat))
 free:∀o,w.frozen? ⟨g,o,none⟩=false
structure QbR(w w':World)(g o m:Nat):Prop where
 grown:w.grownBy w' (some g)
 rest:∀f,f<o\/o+m<=f->w'.cell? ⟨g,f,none⟩=w.cell? ⟨g,f,none⟩
 free:∀f,w'.frozen? ⟨g,f,none⟩=w.frozen? ⟨g,f,none⟩
 owns:∀B e k N cap xs,w.ownsRow B e k (.slice (some ⟨g,0,none⟩) N cap) N xs->∃xs',w'.ownsRow B e k (.slice (some ⟨g,0,none⟩) N cap) N xs'
theorem QbR.trans{w'':World}(h:QbR w w' g o m)(h':QbR w' w'' g o m):QbR w w'' g o m:=
 ⟨Qj h.grown h'.grown,fun f hf=>(h'.rest f hf).trans (h.rest f hf),fun f=>(h'.free f).trans (h.free f),fun B e k N cap xs ho=>by
  obtain ⟨ys,h1⟩:=h.owns B e k N cap xs ho
  exact h'.owns B e k N cap ys h1⟩
theorem QbR.below(hg:g<w.heap.size)(h:Below w.heap.size w w'):QbR w w' g o m:=by
 have e:=(Qk h none).block g hg dr;exact ⟨Qk h _,fun f _=>World.cell?_of_block (w:=w) e,fun f=>World.frozen?_of_block (w:=w) e,fun B e k N cap xs ho=>⟨xs,Qch ho h⟩⟩
theorem Qaz.grown{row:Option Nat}(h:Qaz w g o n F)(hg:w.grownBy w' row)(hne:some g≠row):Qaz w' g o n F:=nh
theorem Qaz.below(h:Qaz w g o n F)(hb:Below w.heap.size w w'):Qaz w' g o n F:=h.grown (Qk hb none) dr
theorem Qaz.congr{G:Nat->Nat×Nat}(h:Qaz w g o n F)(e:∀i,i<n->F i=G i):Qaz w g o n G:=
 ⟨h.lt,fun i hi=>by rw [<-e i hi];exact h.at0 i hi,fun i hi=>by rw [<-e i hi];exact h.at1 i hi,h.free⟩
theorem Qaz.set(h:Qaz w g o n F)(hk:k<n)(a b:Nat):
  Qaz ((w.setCell ⟨g,o+k*2,none⟩ (.int .i8 a)).setCell ⟨g,o+k*2+1,none⟩ (.int .i16 b)) g o n (fun i=>if i=k then (a,b) else F i)/\QbR w ((w.setCell ⟨g,o+k*2,none⟩ (.int .i8 a)).setCell ⟨g,o+k*2+1,none⟩ (.int .i16 b)) g o (n*2):=by
 refine ⟨⟨by simpa using h.lt,?_,?_,fun o=>ni⟩,
  ⟨Qj (Qf w ⟨g,o+k*2,none⟩ _) (Qf _ ⟨g,o+k*2+1,none⟩ _),fun f hf=>?_,fun f=>by rw [World.frozen?_setCell,World.frozen?_setCell],fun B e k' N cap xs ho=>⟨_,((ho.stored _ _).1.stored _ _).1⟩⟩⟩
 ·intro i hi
  rw [World.cell?_setCell_other _ _ _ _ dB];by_cases e:i=k
  ·subst e
   rw [World.cell?_setCell_same _ _ _ (h.at0 i hi)];simp
  ·rw [World.cell?_setCell_other _ _ _ _ dB,h.at0 i hi]
   simp [e]
 ·intro i hi
  by_cases e:i=k
  ·subst e
   have J:(w.setCell ⟨g,o+i*2,none⟩ (.int .i8 a)).cell? ⟨g,o+i*2+1,none⟩=some (.int .i16 ((F i).2:Nat)):=nu;rw [World.cell?_setCell_same _ _ _ J];simp
  ·exact nj
 ·rw [World.cell?_setCell_other _ _ _ _ dB,World.cell?_setCell_other _ _ _ _ dB]
structure Tab(w:World)(p:Nat)(S:Nat->Nat×Nat)(m:Nat)(L:Nat->Nat->Nat×Nat):Prop where
 short:Qaz w p 0 512 S
 long:∃lo c xs,w.cell? ⟨p,1024,none⟩=some (.slice lo m c)/\w.ownsRow (p+1) 286 128 (.slice lo m c) m xs/\∀j,j<m->∃g,lo=some ⟨g,0,none⟩/\p<g/\Qaz w g (j*128) 64 (L j)
theorem Tab.below{p:Nat}{S:Nat->Nat×Nat}{L:Nat->Nat->Nat×Nat}(h:Tab w p S m L)(hb:Below w.heap.size w w'):Tab w' p S m L:=by
 obtain ⟨J,lo,c,xs,h2,h3,h4⟩:=h;refine ⟨J.below hb,lo,c,xs,?_,Qch h3 hb,fun j hj=>?_⟩
 ·exact (World.cell?_of_block (w:=w) ((Qk hb none).block p J.lt dr)).trans h2
 ·obtain ⟨g,e,U,h6⟩:=h4 j hj
  exact ⟨g,e,U,h6.below hb⟩
def QaA(S:Nat->Nat×Nat)(L:Nat->Nat->Nat×Nat)(x:Nat):Nat×Nat:=if (S (x%512)).1=16 then L (S (x%512)).2 (x/512%64) else S (x%512)
theorem QeQ(g o n c l a b S:Nat)(F:Nat->Nat×Nat)(w:World)(hE:Qaz w g o n F)(hn:n<=512)(hl:l<=9)(hS:2^l=S)(hc:c<S):
  Calls prog 200 #[.slice (some ⟨g,o,none⟩) n n,.int .u64 c,.int .i64 l,.agg #[.int .i8 a,.int .i16 b]] w fun e w'=>e=.returned (.tuple #[])/\Qaz w' g o n (fun i=>if i%S=c then (a,b) else F i)/\QbR w w' g o (n*2):=by
 have al:Below w.heap.size w (w.alloc (.cells #[.int .i8 a,.int .i16 b] 273)):=(Below.refl _ _).alloc (Nat.le_refl _) _;have j:S<=512:=hS▸Nat.le_trans (Nat.pow_le_pow_right dn hl) dn;have f:0<S:=dk;have y:=Qg<|hE.below al
 have a6:=Qg<|QbR.below (o:=o) (m:=n*2) hE.lt al
 have ad:=hE.lt;have p0:(w.alloc (.cells #[.int .i8 a,.int .i16 b] 273)).cell? ⟨w.heap.size,0,none⟩=some (.int .i8 a):=dF;have p1:(w.alloc (.cells #[.int .i8 a,.int .i16 b] 273)).cell? ⟨w.heap.size,1,none⟩=some (.int .i16 b):=dF;have HS:=Qg hS;clear hE al hS;go_enter func200,ntmps200;go_wp2_with fail;go_loopw [8] (fun i wr=>∃p:Nat,p<n+S/\i=.int .u64 p/\dm (p%S=c)/\Qaz wr g o n (fun i=>if i<p/\i%S=c then (a,b) else F i)/\QbR w wr g o (n*2)/\wr.cell? ⟨w.heap.size,0,none⟩=some (.int .i8 a)/\wr.cell? ⟨w.heap.size,1,none⟩=some (.int .i16 b)) (fun i _=>n+S-(intOf i).toNat)
 case atStart=>
  refine ⟨c,dk,rfl,(Nat.mod_eq_of_lt hc),y.u.congr (fun i _=>?_),a6.u,p0,p1⟩;rw [if_neg];rintro ⟨J,h2⟩;rw [Nat.mod_eq_of_lt dk] at h2;omega
 case round=>
  clear y a6 p0 p1;obtain ⟨p,N,rfl,HM,hE,hO,q0,q1⟩:=hrel;by_cases ab:p<n
  ·have C:=hE.at0 p ab
   have c1:=hE.at1 p ab;have f0:=hE.free<|o+p*2
   have f1:=hE.free<|o+p*2+1
   obtain ⟨r,ah⟩:=hE.set ab a b;have k:=r.congr (G:=fun i=>if i<p+S/\i%S=c then (a,b) else F i) (fun i _=>by
    by_cases e:i=p
    ·subst e
     rw [if_pos rfl,if_pos ⟨dk,HM.u⟩]
    ·rw [if_neg e]
     by_cases J:i<p/\i%S=c
     ·rw [if_pos J,if_pos ⟨dk,J.2⟩]
     ·rw [if_neg J,if_neg]
      rintro ⟨h2,h3⟩;apply J;refine ⟨?_,h3⟩;by_cases h4:i<p
      ·exact h4
      ·exfalso
       have U:(i-p)%S=0:=by
        have h6:i%S=p%S:=by rw [h3,HM.u]
        exact Nat.sub_mod_eq_zero_of_mod_eq h6
       rw [Nat.mod_eq_of_lt dk] at U;omega)
   have d:=hO.trans ah;have r0:=(World.cell?_of_block (w:=wr) (ah.grown.block w.heap.size (World.block_lt_of_cell? wr _ q0) du) (a:=⟨w.heap.size,0,none⟩)).trans q0;have r1:=(World.cell?_of_block (w:=wr) (ah.grown.block w.heap.size (World.block_lt_of_cell? wr _ q0) du) (a:=⟨w.heap.size,1,none⟩)).trans q1;have I:dm ((p+S)%S=c):=by show _=_;rw [Nat.add_mod_right];exact HM.u
   have ai:=Qg k;have aB:=Qg d;have aj:=Qg r0;have x:=Qg r1;obtain ⟨u0,bn⟩:∃u,wr.cell? ⟨g,o+p*2,none⟩=some u:=⟨_,C⟩;obtain ⟨Y,bm⟩:∃u,wr.cell? ⟨g,o+p*2+1,none⟩=some u:=⟨_,c1⟩;have A:IntKind.u64.wrap ((p:Int)+IntKind.u64.wrap (2^l))=((p+S:Nat):Int):=by
    have J:((2:Int)^l)=(S:Int):=by rw [<-HS.u];exact (Int.natCast_pow 2 l).symm
    rw [J,IntKind.wrap_u64,IntKind.wrap_u64];omega
   clear C c1 hE r k hO ah d r0 r1;go_wp2_with fail;exact ⟨⟨p+S,dk,dr,I,ai.u,aB.u,aj.u,x.u⟩,dM⟩
  ·have HF:dm (Qaz wr g o n (fun i=>if i%S=c then (a,b) else F i)):=hE.congr (fun i hi=>by
    by_cases h:i%S=c
    ·rw [if_pos ⟨dk,h⟩,if_pos h]
    ·rw [if_neg (fun J=>h J.2),if_neg h])
   have HO:=Qg hO;clear hE hO;go_wp2_with fail;go_end0;exact ⟨rfl,HF.u,HO.u⟩
end
end Go.Proofs.YtgginbpmebgkcaaGreatDoor
