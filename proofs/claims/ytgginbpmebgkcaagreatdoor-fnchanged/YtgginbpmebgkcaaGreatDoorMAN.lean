import Derived.Test.YtgginbpmebgkcaaGreatDoorMAL
import Derived.Test.YtgginbpmebgkcaaGreatDoorMAM
namespace Go.Proofs.YtgginbpmebgkcaaGreatDoor
open Go.RowKit Go.Proofs.Tryz
attribute [local go_sem ↓] Go.wp_at_zero Go.wp_at_succ
set_option linter.unusedVariables false
set_option maxRecDepth 100000
set_option maxHeartbeats 25600000
def Qcq(t:Nat×Nat)(n k s l:Nat):Prop:=if t.1=0 then k=0/\s=0/\l=0 else if n<t.1 then k=2/\s=0/\l=0 else k=1/\s=t.2/\l=t.1
theorem QmQ(b n:Nat)(hb:b<2^64)(hn:n<=64):bits .and .u64 (b:Int) (IntKind.u64.wrap (IntKind.u64.wrap (2^n)-1))=((b%2^n:Nat):Int):=by
 have H:0<2^n:=Nat.pos_of_ne_zero dr;have J:2^n<=2^64:=Nat.pow_le_pow_right dn hn;have h2:IntKind.u64.wrap (IntKind.u64.wrap (2^n)-1)=((2^n-1:Nat):Int):=by
  have h3:((2:Int)^n)=((2^n:Nat):Int):=(Int.natCast_pow 2 n).symm;rw [h3];generalize 2^n=P at*;rw [IntKind.wrap_u64,IntKind.wrap_u64];omega
 rw [h2,Qd2 b (2^n-1) hb dk,Nat.and_two_pow_sub_one_eq_mod]
theorem Qme(p m b n M X:Nat)(S:Nat->Nat×Nat)(L:Nat->Nat->Nat×Nat)(w:World)(hT:Tab w p S m L)(hb:b<2^64)(hn:n<=64)(hX:b%2^n=X)(hl1:∀i,(S i).1<=16)(hl2:∀i,(S i).1=16->(S i).2<m)(hl3:∀i,(S i).2<=320)(hl4:∀i j,(L i j).1<=15/\(L i j).2<=320):
  Calls prog 194 #[.pointer (some ⟨p,0,none⟩),.int .u64 b,.int .i64 n] w fun e w'=>(∃k s l:Nat,e=.returned (.agg #[.int .i64 k,.int .i64 s,.int .i64 l])/\Qcq (QaA S L X) n k s l)/\Below w.heap.size w w':=by
 refine ns ?_;intro al av D;have HT:=Qg<|hT.below al
 have HX:=Qg hX;clear hT al hX;go_enter func194,ntmps194;go_upto_region 2 with fail;rw [QmQ b n hb hn,HX.u];have ak:X<2^64:=by
  rw [<-HX.u];exact Nat.lt_of_le_of_lt (Nat.mod_le _ _) hb
 obtain ⟨I,hI⟩:=dt (X%512);have u:I<512:=dk;have W:((X:Int)%512)=(I:Int):=dk;have aB:((X:Int).tmod 512)=(I:Int):=by rw [Int.tmod_eq_emod_of_nonneg dk];exact W
 obtain ⟨E0,a3⟩:=dt ((S I).1);obtain ⟨E1,aj⟩:=dt ((S I).2);have C:=HT.u.short.at0 I u;have c1:=HT.u.short.at1 I u;rw [a3] at C;rw [aj] at c1;rw [Nat.zero_add] at C c1;have ao:E0<=16:=a3▸hl1 I;have aa:E1<=320:=aj▸hl3 I;have P:=Qg hI;have y:=Qg a3;have A:=Qg aj;have z:=Qg hl2;have G:=Qg hl4;clear hI a3 aj hl1 hl2 hl3 hl4;generalize w.alloc (.cells #[.int .i64 0,.int .i64 0,.int .i64 0] 233)=w1 at*;have T:Below w1.heap.size w1 (w1.alloc (.cells #[.int .i8 E0,.int .i16 E1] 273)):=(Below.refl _ _).alloc (Nat.le_refl _) _;by_cases R:E0=16
 ·have U:((E0:Int) == 16)=true:=du
  obtain ⟨lo,c,xs,Z,x,E⟩:=(HT.u.below T).long;obtain ⟨g,rfl,N,H⟩:=E E1 nv;have aq:E1<m:=nv;obtain ⟨J,hJ⟩:=dt (X/512%64);have Y:J<64:=dk;obtain ⟨h,f⟩:=dt ((L E1 J).1);obtain ⟨V,ag⟩:=dt ((L E1 J).2);have d0:=H.at0 J Y;have d1:=H.at1 J Y;rw [f] at d0;rw [ag] at d1;obtain ⟨Q,hQ⟩:=dt (X/512);rw [hQ] at hJ;have cN:(X:Int)/512=(Q:Int):=dk;have a0:IntKind.u64.wrap (Q:Int)=(Q:Int):=dN;have ae:(Q:Int)%64=(J:Int):=dk;have ar:(Q:Int).tmod 64=(J:Int):=by rw [Int.tmod_eq_emod_of_nonneg dk];exact ae
  have HJ:=Qg hJ;have HQ:=Qg hQ;have aw:=Qg f;have ay:=Qg ag;have ad:=Qg R;have ai:(0:Int)<=(E1:Int):=dk;have ah:(E1:Int)<(m:Int):=dk;clear H E x hJ hQ f ag R;go_upto_region 4 with fail;have t:dm (QaA S L X=(h,V)):=by
   show _=_;unfold QaA;rw [P.u,y.u,if_pos ad.u,A.u,HQ.u,HJ.u,<-aw.u,<-ay.u]
  have an:h<=15:=by rw [<-aw.u];exact (G.u _ _).1
  have af:V<=320:=by rw [<-ay.u];exact (G.u _ _).2
  go_region
  clear d0 d1 Z;have ab:Below w1.heap.size w1 ((w1.alloc (.cells #[.int .i8 h,.int .i16 V] 273)).drew):=((Below.refl _ _).alloc (Nat.le_refl _) _).drew;have a:=Qg<|D.u.below ab
  have d:=Qg<|av.u.trans (ab.mono av.u.size)
  have K:((w1.alloc (.cells #[.int .i8 h,.int .i16 V] 273)).drew).cell? ⟨w1.heap.size,0,none⟩=some (.int .i8 h):=dF;have e1:((w1.alloc (.cells #[.int .i8 h,.int .i16 V] 273)).drew).cell? ⟨w1.heap.size,1,none⟩=some (.int .i16 V):=dF;clear ab T;generalize (w1.alloc (.cells #[.int .i8 h,.int .i16 V] 273)).drew=w2 at*;by_cases r:h=0
  ·have HA:dm (Qcq (QaA S L X) n 0 0 0):=by
    unfold dm Qcq;rw [t.u,if_pos r];exact fI
   have o:((h:Int) == 0)=true:=du;exact nw
  ·have o:((h:Int) == 0)=false:=du
   by_cases O:n<h
   ·exact ny
   ·have HA:dm (Qcq (QaA S L X) n 1 V h):=by
     unfold dm Qcq;rw [t.u,if_neg r,if_neg O];exact fI
    clear r;obtain ⟨k3,k4⟩:=QaE a.u 1 V h;refine gJ ?_;intro r0 r1 r2 f0 f1 f2 B;obtain ⟨y0,F,y2,_⟩:=k3;clear k4;go_wp2_with fail;exact bodyPost_ret (v:=.agg #[.int .i64 1,.int .i64 V,.int .i64 h]) gK rfl ⟨⟨1,V,h,rfl,HA.u⟩,B⟩
 ·have U:((E0:Int) == 16)=false:=du
  have t:dm (QaA S L X=(E0,E1)):=by
   show _=_;unfold QaA;rw [P.u,y.u,if_neg R,<-y.u,<-A.u]
  clear R;go_upto_region 5 with fail;have ab:Below w1.heap.size w1 (w1.alloc (.cells #[.int .i8 E0,.int .i16 E1] 273)):=(Below.refl _ _).alloc (Nat.le_refl _) _;have a:=Qg<|D.u.below ab
  have d:=Qg<|av.u.trans (ab.mono av.u.size)
  have K:(w1.alloc (.cells #[.int .i8 E0,.int .i16 E1] 273)).cell? ⟨w1.heap.size,0,none⟩=some (.int .i8 E0):=dF;have e1:(w1.alloc (.cells #[.int .i8 E0,.int .i16 E1] 273)).cell? ⟨w1.heap.size,1,none⟩=some (.int .i16 E1):=dF;clear ab T;generalize w1.alloc (.cells #[.int .i8 E0,.int .i16 E1] 273)=w2 at*;by_cases r:E0=0
  ·have HA:dm (Qcq (QaA S L X) n 0 0 0):=by
    unfold dm Qcq;rw [t.u,if_pos r];exact fI
   have o:((E0:Int) == 0)=true:=du;exact nw
  ·have o:((E0:Int) == 0)=false:=du
   by_cases O:n<E0
   ·exact ny
   ·have HA:dm (Qcq (QaA S L X) n 1 E1 E0):=by
     unfold dm Qcq;rw [t.u,if_neg r,if_neg O];exact fI
    clear r;obtain ⟨k3,k4⟩:=QaE a.u 1 E1 E0;refine gJ ?_;intro r0 r1 r2 f0 f1 f2 B;obtain ⟨y0,F,y2,_⟩:=k3;clear k4;go_wp2_with fail;exact bodyPost_ret (v:=.agg #[.int .i64 1,.int .i64 E1,.int .i64 E0]) gK rfl ⟨⟨1,E1,E0,rfl,HA.u⟩,B⟩
section
variable{w:World}{g B c:Nat}{e:TypeId}{xs:List Value}
structure Upd(w w':World)(p:Nat):Prop where
 os:w'.os=w.os
 tape:w'.tape=w.tape
 output:w'.output=w.output
 size:w.heap.size<=w'.heap.size
 block:∀k,k<w.heap.size->k≠p->(∀g m c,w.cell? ⟨p,1024,none⟩=some (.slice (some ⟨g,0,none⟩) m c)->k≠g)->w'.heap[k]?=w.heap[k]?
theorem Qaz.other{o n:Nat}{F:Nat->Nat×Nat}(h:Qaz w g o n F){f:Nat}(hf:f<o\/o+n*2<=f)(v:Value):Qaz (w.setCell ⟨g,f,none⟩ v) g o n F:=by
 refine ⟨by simpa using h.lt,?_,?_,fun o=>by rw [World.frozen?_setCell];exact h.free o⟩
 ·intro i hi
  rw [World.cell?_setCell_other _ _ _ _ dB];exact h.at0 i hi
 ·intro i hi
  exact nu
theorem QeT{N k:Nat}(h:w.ownsRow B e k (.slice (some ⟨g,0,none⟩) N c) N xs):g<w.heap.size:=(h.lt g rfl).2
theorem Qmp{w4:World}{B' p m c4 g4:Nat}{lo:Option Addr}{news:List Value}{L:Nat->Nat->Nat×Nat}(how:w.ownsRow B e 128 (.slice lo m c) m xs)(hen:∀j,j<m->∃g,lo=some ⟨g,0,none⟩/\p<g/\Qaz w g (j*128) 64 (L j))(hown:w4.ownsRow B' e 128 (.slice (some ⟨g4,0,none⟩) (m+1) c4) (m+1) (xs++news))(h0:∀i,i<64->news[i*2]?=some (.int .i8 0))(h1:∀i,i<64->news[i*2+1]?=some (.int .i16 0)):
  ∀j,j<m+1->Qaz w4 g4 (j*128) 64 (if j=m then fun _=>(0,0) else L j):=by
 intro j hj;have a:xs.length=m*128:=how.1;by_cases b:j=m
 ·subst b
  rw [if_pos rfl];refine ⟨QeT hown,fun i hi=>?_,fun i hi=>?_,fun o=>hown.frozenAt o⟩
  ·rw [hown.cellAt _ dk,List.getElem?_append_right dk,a,Nat.add_sub_cancel_left,h0 i hi]
   rfl
  ·rw [hown.cellAt _ dk,List.getElem?_append_right dk,a,Nat.add_assoc,Nat.add_sub_cancel_left,h1 i hi]
   rfl
 ·rw [if_neg b]
  obtain ⟨g,rfl,_,hE⟩:=hen j dk;refine ⟨QeT hown,fun i hi=>?_,fun i hi=>?_,fun o=>hown.frozenAt o⟩
  ·rw [hown.cellAt _ dk,List.getElem?_append_left dk,<-how.cellAt _ dk]
   exact hE.at0 i hi
  ·rw [hown.cellAt _ dk,List.getElem?_append_left dk,<-how.cellAt _ dk]
   exact hE.at1 i hi
theorem QhT(m:Nat)(h:m<=512):IntKind.i16.wrap (m:Int)=(m:Int):=by simp [IntKind.wrap,IntKind.bits,IntKind.signed];omega
theorem Tryz.info_arr:(prog.info? 286).map (fun i=>(i.zero,i.size,i.bytes))=some (some (.agg zeroCells286),128,256):=by kernel_rfl
theorem QdJ:zeroCells286.size=128:=by kernel_rfl
theorem Qnm(p m f:Nat)(S:Nat->Nat×Nat)(L:Nat->Nat->Nat×Nat)(w:World)(hT:Tab w p S m L)(hf:f<512)(h16:(S f).1=16)(hl2:(S f).2<=512):
  Calls prog 201 #[.pointer (some ⟨p,0,none⟩),.int .u64 f] w fun e w'=>e=.returned (.int .i16 ((S f).2:Nat))/\w'=w:=by
 obtain ⟨E1,aj⟩:=dt ((S f).2);have C:=hT.short.at0 f hf;have c1:=hT.short.at1 f hf;rw [h16] at C;rw [aj] at c1 hl2;rw [aj];rw [Nat.zero_add] at C c1;clear hT aj h16;go_enter func201,ntmps201;exact ey
end
def zz:Nat->List Value
 | 0=>[]
 | k+1=>zz k++[.int .i8 0,.int .i16 0]
theorem Qoj(k:Nat):(zz k).length=k*2:=by
 induction k with
 | zero=>rfl
 | succ k ih=>simp [zz,ih];omega
theorem Qlv(k i:Nat)(h:i<k):(zz k)[i*2]?=some (.int .i8 0)/\(zz k)[i*2+1]?=some (.int .i16 0):=by
 induction k with
 | zero=>omega
 | succ k ih=>
  have hl:=Qoj k;rw [zz];by_cases J:i<k
  ·rw [List.getElem?_append_left dk,List.getElem?_append_left dk];exact ih J
  ·have h2:i=k:=dk
   subst h2;rw [List.getElem?_append_right dk,List.getElem?_append_right dk,hl,Nat.sub_self,Nat.add_sub_cancel_left];exact d6
theorem QjC:zeroCells286.toList=zz 64:=by kernel_rfl
theorem Qj1:zeroCells286.toList.all (fun u=>u.oneCell')=true:=by kernel_rfl
theorem Qfc(w:World)(A:Array Value)(e:TypeId)(j:Nat)(u:Value)(h:A.toList[j]?=some u):(w.alloc (.cells A e)).cell? ((⟨w.heap.size,0,none⟩:Addr).add j)=some u:=by
 have h2:A[j]?=some u:=eI;simp [go_sem,h2]
theorem Qnj{w w3 w4:World}{p m c:Nat}{lo:Option Addr}{xs:List Value}{e:TypeId}{S:Nat->Nat×Nat}{L:Nat->Nat->Nat×Nat}{v4:Value}{A:Array Value}(he:e=286)(hpw:p<w.heap.size)(hO3:QbR w w3 p 0 1024)(hE3:Qaz w3 p 0 512 S)(hcl:w.cell? ⟨p,1024,none⟩=some (.slice lo m c))(how:w.ownsRow (p+1) e 128 (.slice lo m c) m xs)(hen:∀j,j<m->∃g,lo=some ⟨g,0,none⟩/\p<g/\Qaz w g (j*128) 64 (L j))(hgrow:(w3.alloc (.cells A e)).grownBy w4 (Value.slice lo m c).ownBlock)(hown:w4.ownsRow (p+1) e 128 v4 (m+1) (xs++zz 64)):
  ∃g4 c4,v4=.slice (some ⟨g4,0,none⟩) (m+1) c4/\w4.cell? ⟨p,1024,none⟩=some (.slice lo m c)/\w4.frozen? ⟨p,1024,none⟩=false/\
   Tab (w4.setCell ⟨p,1024,none⟩ (.slice (some ⟨g4,0,none⟩) (m+1) c4)) p S (m+1) (fun j=>if j=m then fun _=>(0,0) else L j)/\Upd w (w4.setCell ⟨p,1024,none⟩ (.slice (some ⟨g4,0,none⟩) (m+1) c4)) p:=by
 subst he;obtain ⟨g4,c4,rfl⟩:∃g4 c4,v4=.slice (some ⟨g4,0,none⟩) (m+1) c4:=by
  rcases hown.2 with ⟨_,H⟩|⟨g',K,M,y,_⟩
  ·omega
  ·exact ⟨g',K,y⟩
 have n:some p≠(Value.slice lo m c).ownBlock:=by
  cases lo with
  | none=>simp [Value.ownBlock]
  | some a=>have:=(how.lt a.block rfl).1;simp [Value.ownBlock];omega
 have r:Below w3.heap.size w3 (w3.alloc (.cells A 286)):=(Below.refl _ _).alloc (Nat.le_refl _) _;have s:=hE3.below r;have l:=s.grown hgrow n;have b:=(hO3.rest 1024 dk).trans hcl;have hb:∀k,k<w3.heap.size->some k≠(Value.slice lo m c).ownBlock->w4.heap[k]?=w3.heap[k]?:=fun k hk an=>
  (hgrow.block k (Nat.lt_of_lt_of_le hk (Qk r none).size) an).trans ((Qk r none).block k hk dr)
 have d:=(World.cell?_of_block (a:=⟨p,1024,none⟩) (hb p hE3.lt n)).trans b;have N:p+1<=g4:=(hown.lt g4 rfl).1;have E:=Qf w4 ⟨p,1024,none⟩ (.slice (some ⟨g4,0,none⟩) (m+1) c4);have f:=Qmp how hen hown (fun i hi=>(Qlv 64 i hi).1) (fun i hi=>(Qlv 64 i hi).2);refine ⟨g4,c4,rfl,d,l.free 1024,⟨l.other (.inr dk) _,some ⟨g4,0,none⟩,c4,xs++zz 64,?_,?_,?_⟩,?_⟩
 ·rw [World.cell?_setCell_same _ _ _ d]
 ·exact hown.kept E (.inr gL)
 ·intro j hj
  exact ⟨g4,rfl,dk,(f j hj).grown E du⟩
 ·have ga:=hO3.grown
  have h:=Qk r none;refine ⟨?_,?_,?_,?_,?_⟩
  ·exact E.os.trans<|hgrow.os.trans (h.os.trans ga.os)
  ·exact E.tape.trans<|hgrow.tape.trans (h.tape.trans ga.tape)
  ·exact E.output.trans<|hgrow.output.trans (h.output.trans ga.output)
  ·exact Nat.le_trans ga.size (Nat.le_trans h.size (Nat.le_trans hgrow.size E.size))
  ·intro k hk o q
   have an:some k≠(Value.slice lo m c).ownBlock:=by
    rcases how.2 with ⟨y,_⟩|⟨g',K,M,y,_⟩
    ·rw [y];simp [Value.ownBlock]
    ·rw [y] at hcl ⊢
     have:=q g' m K hcl;simpa [Value.ownBlock] using this
   exact (E.block k (Nat.lt_of_lt_of_le hk (Nat.le_trans ga.size (Nat.le_trans h.size hgrow.size))) (by simpa using o)).trans ((hb k (Nat.lt_of_lt_of_le hk ga.size) an).trans (ga.block k hk (by simpa using o)))
theorem QmT(p m f:Nat)(S:Nat->Nat×Nat)(L:Nat->Nat->Nat×Nat)(w:World)(hT:Tab w p S m L)(hf:f<512)(hm:m<=512)(h16:¬(S f).1=16)(hl1:(S f).1<=16)(hl2:(S f).2<=512):
  Calls prog 201 #[.pointer (some ⟨p,0,none⟩),.int .u64 f] w fun e w'=>e=.returned (.int .i16 m)/\Tab w' p (fun i=>if i=f then (16,m) else S i) (m+1) (fun j=>if j=m then fun _=>(0,0) else L j)/\Upd w w' p:=by
 obtain ⟨E0,a3⟩:=dt ((S f).1);obtain ⟨E1,aj⟩:=dt ((S f).2);obtain ⟨i0,hi,af,ak,aq⟩:=info_parts Tryz.info_arr;have C:=hT.short.at0 f hf;have c1:=hT.short.at1 f hf;rw [a3] at C hl1 h16;rw [aj] at c1 hl2;rw [Nat.zero_add] at C c1;have aa:=hT.short.lt;have U:((E0:Int) != 16)=true:=du;obtain ⟨F,lo,c,xs,Z,x,E⟩:=hT;obtain ⟨r,ah⟩:=F.set hf 16 m;rw [Nat.zero_add] at r ah;have f0:=F.free<|f*2
 have f1:=F.free<|f*2+1
 have q:=(ah.rest 1024 dk).trans Z;have d:=x.kept ah.grown (by
  cases lo with
  | none=>exact .inl rfl
  | some a=>exact .inr (by have:=(x.lt a.block rfl).1;simp [Value.ownBlock];omega))
 have a7:=Qg r;have an:=Qg ah;have aZ:=Qg x;have o:=Qg d;have z:=Qg E;have l:=Qg Z;have n:=QhT m hm;clear h16 F r ah x E d a3 aj;go_enter func201,ntmps201;go_upto_region 2 with fail;go_region
 have D:∃w3:World,w3=((w.setCell ⟨p,f*2,none⟩ (.int .i8 16)).setCell ⟨p,f*2+1,none⟩ (.int .i16 m)).drew:=⟨_,rfl⟩;obtain ⟨w3,D⟩:=D;have aB:dm (QbR w w3 p 0 1024):=by rw [D];exact an.u.trans (QbR.below a7.u.lt ((Below.refl _ _).drew))
 have ai:dm (Qaz w3 p 0 512 (fun i=>if i=f then (16,m) else S i)):=by rw [D];exact a7.u.below ((Below.refl _ _).drew)
 have k:dm (w3.ownsRow (p+1) 286 128 (.slice lo m c) m xs):=by rw [D];exact o.u
 have b:w3.cell? ⟨p,1024,none⟩=some (.slice lo m c):=by rw [D];exact q
 rw [<-D];have y:=ai.u.lt;have HN:=Qg (fun (A:Array Value) (hA:A=zeroCells286) (j:Nat) (u:Value) (h:zeroCells286.toList[j]?=some u)=>Qfc w3 A 286 j u (by rw [hA];exact h));have s:=Qg (fun (A:Array Value)=>Qch k.u ((Below.refl _ _).alloc (Nat.le_refl _) (.cells A 286)));clear D q a7 an o Z C c1 f0 f1;go_wp2_with (at_builtin;refine Qaq _ rfl _ _ 275 rfl (p+1) 286 i0 (.agg zeroCells286) 128 256 underlying275 hi af ak aq ?hzs ?hpos (.slice lo m c) m xs rfl (s.u _) ⟨w3.heap.size,0,none⟩ 1 1 zeroCells286.toList rfl ?hlen (HN.u _ ?hA) ?hone ?h63 ?hby ?hbase ?hgo)
 case hzs=>exact QdJ
 case hpos=>decide
 case hlen=>rw [Array.length_toList];exact QdJ
 case hA=>kernel_rfl
 case hone=>exact fun u hu=>List.all_eq_true.1 Qj1 u hu
 case h63=>unfold maxLen;omega
 case hby=>omega
 case hbase=>simp;omega
 intro v4 w4 R Q;rw [QjC] at R;obtain ⟨g4,c4,rfl,B,G,t,v⟩:=Qnj rfl aa aB.u ai.u l.u aZ.u z.u Q R;have a1:=t.short.at1 f hf;rw [Nat.zero_add,if_pos rfl] at a1;have g:=Qg t;have H:=Qg v;clear R Q t v HN k s ai aB aZ z l b y;go_wp2_with fail;go_ret;exact ⟨rfl,g.u,H.u⟩
section
variable{w w':World}{p:Nat}
theorem Upd.only(h:QbR w w' p 0 1024):Upd w w' p:=
 ⟨h.grown.os,h.grown.tape,h.grown.output,h.grown.size,fun k hk hp _=>h.grown.block k hk (by simpa using hp)⟩
theorem Tab.short_set{m:Nat}{S S':Nat->Nat×Nat}{L:Nat->Nat->Nat×Nat}(h:Tab w p S m L)(hE:Qaz w' p 0 512 S')(hO:QbR w w' p 0 1024):Tab w' p S' m L:=by
 obtain ⟨J,lo,c,xs,h2,h3,h4⟩:=h;refine ⟨hE,lo,c,xs,(hO.rest 1024 dk).trans h2,?_,fun j hj=>?_⟩
 ·refine h3.kept hO.grown ?_
  cases lo with
  | none=>exact .inl rfl
  | some a=>exact .inr (by have:=(h3.lt a.block rfl).1;simp [Value.ownBlock];omega)
 ·obtain ⟨g,e,U,h6⟩:=h4 j hj
  exact ⟨g,e,U,h6.grown hO.grown du⟩
theorem Qmx(p m s X Y P:Nat)(S:Nat->Nat×Nat)(L:Nat->Nat->Nat×Nat)(w:World)(hT:Tab w p S m L)(hs:s<=320)(hX0:0<X)(hX:X<=9)(hP:2^X=P)(hY:Y<P):
  Calls prog 193 #[.pointer (some ⟨p,0,none⟩),.int .i16 s,.agg #[.int .i64 X,.int .u64 Y]] w fun e w'=>e=.returned (.tuple #[])/\Tab w' p (fun i=>if i%P=Y then (X,s) else S i) m L/\Upd w w' p:=by
 refine nA ?_;intro w2 E ah aa D p0 p1 Z A HT;have al:=Qg<|hT.below ah
 have d:=Qg ah;have ai:=Qg (fun W (hW:Below w2.heap.size w2 W)=>QeQ p 0 512 Y X X s P S W ((al.u.below hW).short) dk hX hP hY);have b9:decide ((X:Int)<=9)=true:=decide_eq_true dk;clear hT ah hP;go_enter func193,ntmps193;go_upto_region 3 with fail;have V:=World.block_lt_of_cell? w2 _ p0;have ab:=World.block_lt_of_cell? w2 _ Z;clear E;go_region_held3 (fun w'=>w'.cell? ⟨w.heap.size,0,none⟩=some (.int .i64 X)/\w'.cell? ⟨w.heap.size,1,none⟩=some (.int .u64 Y)/\w'.cell? ⟨w.heap.size+1,0,none⟩=some (.int .i8 X)/\w'.cell? ⟨w.heap.size+1,1,none⟩=some (.int .i16 s))
  (first|(refine ⟨?_,?_,?_,?_⟩<;>with_reducible assumption)|(go_keep;done))
  ((go_at_call 200;refine Calls.mono (ai.u _ ((Below.refl _ _).drew)) ?_;rintro e w7 ⟨rfl,h,b⟩;have q0:=(World.cell?_of_block (w:=w2.drew) (a:=⟨w.heap.size,0,none⟩) (b.grown.block w.heap.size V du)).trans p0;have q1:=(World.cell?_of_block (w:=w2.drew) (a:=⟨w.heap.size,1,none⟩) (b.grown.block w.heap.size V du)).trans p1;have q2:=(World.cell?_of_block (w:=w2.drew) (a:=⟨w.heap.size+1,0,none⟩) (b.grown.block (w.heap.size+1) ab du)).trans Z;have q3:=(World.cell?_of_block (w:=w2.drew) (a:=⟨w.heap.size+1,1,none⟩) (b.grown.block (w.heap.size+1) ab du)).trans A))
 have l:Below w.heap.size w w2.drew:=d.u.trans (((Below.refl _ _).drew).mono d.u.size);have c:QbR w w7 p 0 1024:=(QbR.below aa l).trans b;have HF:=Qg<|Tab.short_set HT.u h c
 have o:=Qg<|Upd.only c
 clear l c h b;go_wp2_with fail;exact bodyPost_ret (v:=.tuple #[]) (results_none rfl _ _ _) rfl ⟨rfl,HF.u,o.u⟩
end
section
variable{w:World}{p m:Nat}{S:Nat->Nat×Nat}{L:Nat->Nat->Nat×Nat}
theorem Upd.keeps{w2 w3:World}(hT:Tab w p S m L)(hb:Below w.heap.size w w2)(hU:Upd w2 w3 p)(k:Nat)(hk:w.heap.size<=k)(hk2:k<w2.heap.size):w3.heap[k]?=w2.heap[k]?:=by
 have N:=hT.short.lt;obtain ⟨lo,c,xs,h2,h3,h4⟩:=hT.long;have e:=(World.cell?_of_block (a:=⟨p,1024,none⟩) ((Qk hb none).block p N dr)).trans h2;refine hU.block k hk2 dk (fun g m' c' h=>?_);rw [e] at h;have U:=Option.some.inj h;rw [U] at h3;have:=(h3.lt g rfl).2;omega
theorem Tab.long_set{w':World}{q g c:Nat}{F:Nat->Nat×Nat}(h:Tab w p S m L)(hq:q<m)(hc:w.cell? ⟨p,1024,none⟩=some (.slice (some ⟨g,0,none⟩) m c))(hE:Qaz w' g (q*128) 64 F)(hO:QbR w w' g (q*128) (64*2)):Tab w' p S m (fun j=>if j=q then F else L j):=by
 obtain ⟨J,lo,c',u,h2,h3,h4⟩:=h;rw [hc] at h2;have e:=Option.some.inj h2;simp only [Value.slice.injEq,true_and] at e;obtain ⟨rfl,rfl⟩:=e;have N:p+1<=g:=(h3.lt g rfl).1;obtain ⟨f,d⟩:=hO.owns _ _ _ _ _ _ h3;refine ⟨J.grown hO.grown du,some ⟨g,0,none⟩,c,f,(World.cell?_of_block (a:=⟨p,1024,none⟩) (hO.grown.block p J.lt du)).trans hc,d,fun j hj=>⟨g,rfl,dk,?_⟩⟩;by_cases b:j=q
 ·subst b
  rw [if_pos rfl];exact hE
 ·rw [if_neg b]
  obtain ⟨g',e',_,U⟩:=h4 j hj;simp only [Option.some.injEq,Addr.mk.injEq,and_true] at e'
  subst e'
  refine ⟨hE.lt,fun i hi=>?_,fun i hi=>?_,hE.free⟩
  ·rw [hO.rest _ dk];exact U.at0 i hi
  ·rw [hO.rest _ dk];exact U.at1 i hi
end
section
variable{w:World}{B:Nat}
theorem Upd.beneath{w':World}{p m:Nat}{S:Nat->Nat×Nat}{L:Nat->Nat->Nat×Nat}(hT:Tab w p S m L)(hU:Upd w w' p)(hB:B<=p):Below B w w':=by
 have N:=hT.short.lt;refine ⟨hU.os,hU.tape,hU.output,hU.size,fun k hk=>hU.block k dk dk (fun g m' c h=>?_)⟩;obtain ⟨lo,c2,xs,h2,h3,_⟩:=hT.long;rw [h2] at h;have U:=Option.some.inj h;rw [U] at h3;have:=(h3.lt g rfl).1;omega
theorem Qir{k:Nat}{A:Array Value}{e:TypeId}{fz:Nat×Nat}{g N c n:Nat}{e':TypeId}{xs:List Value}(h:w.heap[k]?=some (.cells A e fz))(ho:w.ownsRow B e' n (.slice (some ⟨g,0,none⟩) N c) N xs)(hne:e≠e'):k≠g:=by
 rintro rfl;rcases ho.2 with ⟨y,_⟩|⟨g',K,M,y,_,O,_⟩
 ·simp at y
 ·simp only [Value.slice.injEq,Option.some.injEq,Addr.mk.injEq,and_true,true_and] at y
  obtain ⟨rfl,rfl⟩:=y;rw [h] at O;simp only [Option.some.injEq,Obj.cells.injEq] at O;exact hne O.2.1
theorem Qep(w:World)(A B:Array Value)(e e':TypeId):((w.alloc (.cells A e)).alloc (.cells B e')).heap[w.heap.size]?=some (.cells A e (0,0))/\((w.alloc (.cells A e)).alloc (.cells B e')).heap[w.heap.size+1]?=some (.cells B e' (0,0)):=by
 constructor
 ·exact jv
 ·exact jv
theorem Qjq(p m s X Y P F Y2 q m':Nat)(S S':Nat->Nat×Nat)(L L':Nat->Nat->Nat×Nat)(w:World)(hT:Tab w p S m L)(hs:s<=320)(hX0:9<X)(hX:X<=15)(hP:2^(X-9)=P)(hY:Y<32768)(hF:Y%512=F)(hY2:Y/512=Y2)(hY3:Y2<P)(hq:q<m')(hm:m'<=513)(hlink:∀W,Tab W p S m L->Calls prog 201 #[.pointer (some ⟨p,0,none⟩),.int .u64 F] W fun e w'=>e=.returned (.int .i16 q)/\Tab w' p S' m' L'/\Upd W w' p):
  Calls prog 193 #[.pointer (some ⟨p,0,none⟩),.int .i16 s,.agg #[.int .i64 X,.int .u64 Y]] w fun e w'=>e=.returned (.tuple #[])/\Tab w' p S' m' (fun j=>if j=q then fun i=>if i%P=Y2 then (X,s) else L' q i else L' j)/\∀B,B<=p->Below B w w':=by
 refine nA ?_;intro w2 E ah aa D p0 p1 Z A HT;have t:=Qg<|hlink w2 (hT.below ah)
 have d:=Qg ah;have b9:decide ((X:Int)<=9)=false:=decide_eq_false dk;have b7:(Y:Int)%512=(F:Int):=dk;have T:(Y:Int).tmod 512=(F:Int):=by rw [Int.tmod_eq_emod_of_nonneg dk];exact b7
 have f:=Qg E;have HP:=Qg hP;have V:=World.block_lt_of_cell? w2 _ p0;have ab:=World.block_lt_of_cell? w2 _ Z;clear hT ah hP hlink;go_enter func193,ntmps193;go_wp2_with (go_at_call 201;refine Calls.mono t.u ?_)
 intro e w3 he o c;subst he;have aA:=Upd.keeps HT.u d.u c w.heap.size (Nat.le_refl _) V;have au:=Upd.keeps HT.u d.u c (w.heap.size+1) dk ab;have q0:=(World.cell?_of_block (a:=⟨w.heap.size,0,none⟩) aA).trans p0;have q1:=(World.cell?_of_block (a:=⟨w.heap.size,1,none⟩) aA).trans p1;have q2:=(World.cell?_of_block (a:=⟨w.heap.size+1,0,none⟩) au).trans Z;have q3:=(World.cell?_of_block (a:=⟨w.heap.size+1,1,none⟩) au).trans A;obtain ⟨M,c3,Q,ax,av,n⟩:=o.long;obtain ⟨g,rfl,N,r⟩:=n q hq;have H:w.heap.size≠g:=Qir (aA.trans (by rw [<-f.u];exact (Qep w _ _ _ _).1)) av dn;have I:w.heap.size+1≠g:=Qir (au.trans (by rw [<-f.u];exact (Qep w _ _ _ _).2)) av dn;have C:=Nat.lt_of_lt_of_le V c.size;have y:=Nat.lt_of_lt_of_le ab c.size;have ai:=Qg (fun W (hW:Below w3.heap.size w3 W)=>QeQ g (q*128) 64 Y2 (X-9) X s P (L' q) W (r.below hW) dk dk HP.u hY3);have l:=Qg o;have aD:=Qg c;have ad:=r.lt;have K:(Y:Int)/512=(Y2:Int):=dk;have G:((X-9:Nat):Int)=(X:Int)-9:=dk;have z:IntKind.i64.wrap ((X-9:Nat):Int)=((X-9:Nat):Int):=jm;obtain ⟨X9,aJ⟩:=dt (X-9);rw [aJ] at ai G z;have ae:(q:Int)<(m':Int):=dk;have R:(0:Int)<=(q:Int):=dk;have J:(X:Int)-9=(X9:Int):=G.symm;clear o c r n av p0 p1 Z A G aJ aA au;have O:=l.u.short.lt;go_upto_region 5 with fail;clear E;go_region_held3 (fun w'=>w'.cell? ⟨w.heap.size,0,none⟩=some (.int .i64 X)/\w'.cell? ⟨w.heap.size,1,none⟩=some (.int .u64 Y)/\w'.cell? ⟨w.heap.size+1,0,none⟩=some (.int .i8 X)/\w'.cell? ⟨w.heap.size+1,1,none⟩=some (.int .i16 s)/\w'.cell? ⟨p,1024,none⟩=some (.slice (some ⟨g,0,none⟩) m' c3))
  (first|(refine ⟨?_,?_,?_,?_,?_⟩<;>with_reducible assumption)|(go_keep;done))
  ((go_at_call 200;refine Calls.mono (ai.u _ ((Below.refl _ _).drew)) ?_;rintro e w7 ⟨rfl,h,b⟩;have r0:=(World.cell?_of_block (w:=w3.drew) (a:=⟨w.heap.size,0,none⟩) (b.grown.block (w.heap.size) C du)).trans q0;have r1:=(World.cell?_of_block (w:=w3.drew) (a:=⟨w.heap.size,1,none⟩) (b.grown.block (w.heap.size) C du)).trans q1;have r2:=(World.cell?_of_block (w:=w3.drew) (a:=⟨w.heap.size+1,0,none⟩) (b.grown.block (w.heap.size+1) y du)).trans q2;have r3:=(World.cell?_of_block (w:=w3.drew) (a:=⟨w.heap.size+1,1,none⟩) (b.grown.block (w.heap.size+1) y du)).trans q3;have U:=(World.cell?_of_block (w:=w3.drew) (a:=⟨p,1024,none⟩) (b.grown.block p O du)).trans ax))
 have v:QbR w3 w7 g (q*128) (64*2):=(QbR.below ad ((Below.refl _ _).drew)).trans b;have HF:=Qg<|Tab.long_set l.u hq ax h v
 have ao:dm (∀B,B<=p->Below B w w7):=fun B hB=>by
  have u:=d.u.mono (show B<=w.heap.size by omega);have x2:Below B w2 w3:=Upd.beneath (HT.u.below d.u) aD.u hB;have x3:=u.trans x2;exact x3.grown v.grown (by have:=x3.size;omega) (fun k e=>dJ)
 clear v b h;go_wp2_with fail;go_end0;exact ⟨rfl,HF.u,ao.u⟩
end
end Go.Proofs.YtgginbpmebgkcaaGreatDoor
namespace Go.Proofs.YtgginbpmebgkcaaGreatDoor
open Go.RowKit Go.Proofs.Tryz
set_option linter.unusedVariables false
set_option maxRecDepth 100000
set_option maxHeartbeats 25600000
section
variable{zs:List Int}{k m X Y s x:Nat}{S:Nat->Nat×Nat}{L:Nat->Nat->Nat×Nat}
def Hit(zs:List Int)(s x:Nat):Prop:=VQ zs s/\x%2^ln zs s=tr (num zs s) (ln zs s)
theorem Hit.one(hk:SS zs 15<=32768){t:Nat}(h:Hit zs s x)(h':Hit zs t x):s=t:=
 Qld ((Qck h.1 hk x).1 h.2) ((Qck h'.1 hk x).1 h'.2)
structure TI(zs:List Int)(k:Nat)(S:Nat->Nat×Nat)(m:Nat)(L:Nat->Nat->Nat×Nat):Prop where
 fit:∀x,(∃s,s<k/\Hit zs s x/\QaA S L x=(ln zs s,s))\/((∀s,s<k->¬Hit zs s x)/\QaA S L x=(0,0))
 l1:∀i,(S i).1<=16
 l2:∀i,(S i).1=16->(S i).2<m
 l3:∀i,(S i).2<=320
 l4:∀i j,(L i j).1<=15/\(L i j).2<=320
 inj:∀i j,(S i).1=16->(S j).1=16->(S i).2=(S j).2->i=j
 most:m<=k
theorem TI.zero(zs:List Int):TI zs 0 (fun _=>(0,0)) 0 (fun _ _=>(0,0)):=by
 refine ⟨fun x=>.inr ⟨fun s hs=>dk,by simp [QaA]⟩,fun i=>dr,fun i h=>by simp at h,fun i=>dr,fun i j=>dr,fun i j h=>by simp at h,Nat.le_refl _⟩
theorem TI.skip(h:TI zs k S m L)(h0:ln zs k=0):TI zs (k+1) S m L:=by
 refine {h with fit:=fun x=>?_,most:=gM};rcases h.fit x with ⟨s,J,h2,h3⟩|⟨J,h2⟩
 ·exact .inl ⟨s,dk,h2,h3⟩
 ·refine .inr ⟨fun s hs hh=>?_,h2⟩
  by_cases e:s=k
  ·subst e
   have:=hh.1.pos;omega
  ·exact J s dk hh
theorem TI.none(h:TI zs k S m L)(hk:SS zs 15<=32768)(hx:Hit zs k x):QaA S L x=(0,0):=by
 rcases h.fit x with ⟨s,J,h2,_⟩|⟨_,h2⟩
 ·have:=h2.one hk hx
  omega
 ·exact h2
theorem TI.step{S':Nat->Nat×Nat}{L':Nat->Nat->Nat×Nat}(h:TI zs k S m L)(hk:SS zs 15<=32768)(hy:∀x,Hit zs k x->QaA S' L' x=(ln zs k,k))(hn:∀x,¬Hit zs k x->QaA S' L' x=QaA S L x)(x:Nat):
  (∃s,s<k+1/\Hit zs s x/\QaA S' L' x=(ln zs s,s))\/((∀s,s<k+1->¬Hit zs s x)/\QaA S' L' x=(0,0)):=by
 by_cases hx:Hit zs k x
 ·exact .inl ⟨k,dk,hx,hy x hx⟩
 ·rw [hn x hx]
  rcases h.fit x with ⟨s,J,h2,h3⟩|⟨J,h2⟩
  ·exact .inl ⟨s,dk,h2,h3⟩
  ·refine .inr ⟨fun s hs hh=>?_,h2⟩
   by_cases e:s=k
   ·subst e;exact hx hh
   ·exact J s dk hh
theorem TI.short(h:TI zs k S m L)(hk:SS zs 15<=32768)(hc:VQ zs k)(hk2:k<=320)(hX:ln zs k=X)(hY:tr (num zs k) (ln zs k)=Y)(h9:X<=9):
  TI zs (k+1) (fun i=>if i%2^X=Y then (X,k) else S i) m L:=by
 have hm:∀x,x%512%2^X=x%2^X:=fun x=>QcN x X 9 h9
 have b:∀x,Hit zs k x↔x%2^X=Y:=fun x=>by
  exact nB
 refine ⟨h.step hk (fun x hx=>?_) (fun x hx=>?_),fun i=>?_,fun i=>?_,fun i=>?_,h.l4,fun i j=>?_,gM⟩
 ·rw [b] at hx
  unfold QaA;simp only [hm,hx,if_true];rw [if_neg dk,hX]
 ·rw [b] at hx
  unfold QaA;simp only [hm,hx,if_false]
 ·try dsimp only
  split
  ·show X<=16;omega
  ·exact h.l1 i
 ·try dsimp only
  split
  ·intro e;exfalso;omega
  ·exact h.l2 i
 ·try dsimp only
  split
  ·exact hk2
  ·exact h.l3 i
 ·try dsimp only
  split
  ·intro e;exfalso;omega
  ·split
   ·intro _ e;exfalso;omega
   ·exact h.inj i j
theorem QgI(x Y X:Nat)(h9:9<X)(h15:X<=15)(hY:Y<2^X):x%2^X=Y↔x%512=Y%512/\x/512%64%2^(X-9)=Y/512:=by
 have c:x/512%64%2^(X-9)=x/512%2^(X-9):=QcN (x/512) (X-9) 6 dk;have d:2^X=512*2^(X-9):=nD;rw [c];rw [d] at hY ⊢;generalize 2^(X-9)=P at*;have J:x%(512*P)=x%512+512*(x/512%P):=Nat.mod_mul;rw [J];constructor
 ·intro e
  have h2:x%512<512:=Nat.mod_lt _ dn;generalize x%512=a at*;generalize x/512%P=b at*;omega
 ·rintro ⟨e1,e2⟩
  rw [e1,e2];omega
theorem TI.long_has(h:TI zs k S m L)(hk:SS zs 15<=32768)(hc:VQ zs k)(hk2:k<=320)(hX:ln zs k=X)(hY:tr (num zs k) (ln zs k)=Y)(hYl:Y<2^X)(h9:9<X)(h16:(S (Y%512)).1=16):
  TI zs (k+1) S m (fun j=>if j=(S (Y%512)).2 then fun i=>if i%2^(X-9)=Y/512 then (X,k) else L (S (Y%512)).2 i else L j):=by
 refine nE ?_;intro a b;refine ⟨h.step hk (fun x hx=>?_) (fun x hx=>?_),h.l1,h.l2,h.l3,fun i j=>?_,h.inj,gM⟩
 ·obtain ⟨e1,e2⟩:=(b x).1 hx
  unfold QaA;rw [e1,if_pos h16];dsimp only;rw [if_pos rfl,if_pos e2,hX]
 ·rw [b] at hx
  unfold QaA;by_cases D:(S (x%512)).1=16
  ·rw [if_pos D,if_pos D]
   dsimp only;by_cases c:(S (x%512)).2=(S (Y%512)).2
   ·have e1:=h.inj _ _ D h16 c
    rw [if_pos c,if_neg (fun e2=>hx ⟨e1,e2⟩),c]
   ·rw [if_neg c]
  ·rw [if_neg D,if_neg D]
 ·try dsimp only
  split
  ·dsimp only
   split
   ·exact ⟨a,hk2⟩
   ·exact h.l4 _ _
  ·exact h.l4 _ _
theorem TI.long_new(h:TI zs k S m L)(hk:SS zs 15<=32768)(hc:VQ zs k)(hk2:k<=320)(hX:ln zs k=X)(hY:tr (num zs k) (ln zs k)=Y)(hYl:Y<2^X)(h9:9<X)(h16:¬(S (Y%512)).1=16):
  TI zs (k+1) (fun i=>if i=Y%512 then (16,m) else S i) (m+1) (fun j=>if j=m then fun i=>if i%2^(X-9)=Y/512 then (X,k) else (0,0) else L j):=by
 refine nE ?_;intro a b;have f:S (Y%512)=(0,0):=by
  have J:=h.none hk (x:=Y) ⟨hc,by rw [hX,<-hX,hY,hX];exact Nat.mod_eq_of_lt hYl⟩;unfold QaA at J;rw [if_neg h16] at J;exact J
 refine ⟨h.step hk (fun x hx=>?_) (fun x hx=>?_),fun i=>?_,fun i=>?_,fun i=>?_,fun i j=>?_,fun i j=>?_,gM⟩
 ·obtain ⟨e1,e2⟩:=(b x).1 hx
  unfold QaA;simp only [e1,if_true,e2,hX]
 ·rw [b] at hx
  unfold QaA;by_cases e1:x%512=Y%512
  ·have e2:¬x/512%64%2^(X-9)=Y/512:=fun e2=>hx ⟨e1,e2⟩
   simp only [e1,if_true,e2,if_false,f];simp
  ·simp only [e1,if_false]
   by_cases D:(S (x%512)).1=16
   ·have:=h.l2 _ D
    rw [if_pos D,if_pos D,if_neg dk]
   ·rw [if_neg D,if_neg D]
 ·try dsimp only
  split
  ·exact ez
  ·exact h.l1 i
 ·try dsimp only
  split
  ·intro _;show m<m+1;omega
  ·intro e;have:=h.l2 i e;omega
 ·try dsimp only
  split
  ·show m<=320;have:=h.most;omega
  ·exact h.l3 i
 ·try dsimp only
  split
  ·dsimp only
   split
   ·exact ⟨a,hk2⟩
   ·exact ⟨Nat.zero_le _,Nat.zero_le _⟩
  ·exact h.l4 _ _
 ·try dsimp only
  by_cases d:i=Y%512
  ·by_cases c:j=Y%512
   ·intro _ _ _;omega
   ·rw [if_pos d,if_neg c]
    intro _ e1 e2;have J:=h.l2 j e1;omega
  ·by_cases c:j=Y%512
   ·rw [if_neg d,if_pos c]
    intro e1 _ e2;have J:=h.l2 i e1;omega
   ·rw [if_neg d,if_neg c]
    exact h.inj i j
theorem TI.ans{b n l:Nat}(h:TI zs zs.length S m L)(hk:SS zs 15<=32768)(ha:Qcq (QaA S L (b%2^n)) n k s l):Ans zs b n k s l:=by
 rcases h.fit (b%2^n) with ⟨i,J,h2,h3⟩|⟨J,h2⟩
 ·rw [h3] at ha
  have I:=(Qck h2.1 hk (b%2^n)).1 h2.2;have N:=h2.1.pos;unfold Qcq at ha;rw [if_neg (by show ¬ln zs i=0;omega)] at ha;by_cases M:n<ln zs i
  ·rw [if_pos M] at ha
   exact .inr (.inl ⟨i,I,M,ha⟩)
  ·rw [if_neg M] at ha
   exact .inl ⟨i,I,dk,ha⟩
 ·rw [h2] at ha
  unfold Qcq at ha;rw [if_pos rfl] at ha;refine .inr (.inr ⟨fun i I=>?_,ha⟩);exact J i I.1.lt ⟨I.1,(Qck I.1 hk (b%2^n)).2 I⟩
end
end Go.Proofs.YtgginbpmebgkcaaGreatDoor
namespace Go.Proofs.YtgginbpmebgkcaaGreatDoor
open Go.RowKit Go.Proofs.Tryz
attribute [local go_sem ↓] Go.wp_at_zero Go.wp_at_succ
set_option linter.unusedVariables false
set_option maxRecDepth 100000
set_option maxHeartbeats 25600000
theorem Upd.refl(w:World)(p:Nat):Upd w w p:=⟨rfl,rfl,rfl,Nat.le_refl _,fun _ _ _ _=>rfl⟩
theorem Qp1(zs:List Int)(k p m:Nat)(S:Nat->Nat×Nat)(L:Nat->Nat->Nat×Nat)(w:World)(hT:Tab w p S m L)(hI:TI zs k S m L)(hc:VQ zs k)(hk:SS zs 15<=32768)(hn:zs.length<=320):
  Calls prog 193 #[.pointer (some ⟨p,0,none⟩),.int .i16 k,.agg #[.int .i64 (ln zs k:Nat),.int .u64 (tr (num zs k) (ln zs k):Nat)]] w fun e w'=>e=.returned (.tuple #[])/\(∃S' m' L',Tab w' p S' m' L'/\TI zs (k+1) S' m' L')/\∀B,B<=p->Below B w w':=by
 have ax:=hc.lt;have aj:=hc.pos;have f:=hc.most;obtain ⟨X,hX⟩:=dt (ln zs k);obtain ⟨Y,hY⟩:=dt (tr (num zs k) (ln zs k));have c:Y<2^X:=by rw [<-hY,<-hX];exact Qhb _ _
 have l:=hI.most;rw [hY];by_cases h9:X<=9
 ·rw [hX]
  refine Calls.mono (Qmx p m k X Y (2^X) S L w hT dk dk h9 rfl c) ?_;rintro e w' ⟨rfl,b,hU⟩;exact ⟨rfl,⟨_,_,_,b,hI.short hk hc dk hX hY h9⟩,fun B a=>Upd.beneath hT hU a⟩
 ·have g:2^X<=2^15:=Nat.pow_le_pow_right dn dk
  have d:2^X=512*2^(X-9):=nD;have N:Y/512<2^(X-9):=by rw [d] at c;omega
  rw [hX];by_cases R:(S (Y%512)).1=16
  ·refine Calls.mono (Qjq p m k X Y (2^(X-9)) (Y%512) (Y/512) (S (Y%512)).2 m S S L L w hT dk dk dk rfl dk rfl rfl N (hI.l2 _ R) dk ?_) ?_
   ·intro W hW
    refine Calls.mono (Qnm p m (Y%512) S L W hW dk R (by have:=hI.l3 (Y%512);omega)) ?_;rintro e w' ⟨rfl,rfl⟩;exact ⟨rfl,hW,Upd.refl _ _⟩
   ·rintro e w' ⟨rfl,b,a⟩
    exact ⟨rfl,⟨_,_,_,b,hI.long_has hk hc dk hX hY c dk R⟩,a⟩
  ·refine Calls.mono (Qjq p m k X Y (2^(X-9)) (Y%512) (Y/512) m (m+1) S (fun i=>if i=Y%512 then (16,m) else S i) L (fun j=>if j=m then fun _=>(0,0) else L j) w hT dk dk dk rfl dk rfl rfl N dk dk ?_) ?_
   ·intro W hW
    exact QmT p m (Y%512) S L W hW dk dk R (hI.l1 _) (by have:=hI.l3 (Y%512);omega)
   ·rintro e w' ⟨rfl,b,a⟩
    have e1:(fun j=>if j=m then fun i=>if i%2^(X-9)=Y/512 then (X,k) else (if m=m then fun _=>(0,0) else L m) i else (if j=m then fun _=>(0,0) else L j))=(fun j=>if j=m then fun i=>if i%2^(X-9)=Y/512 then (X,k) else (0,0) else L j):=by
     funext j;by_cases h:j=m
     ·rw [if_pos h,if_pos h,if_pos rfl]
     ·rw [if_neg h,if_neg h,if_neg h]
    exact ⟨rfl,⟨_,_,_,b,by rw [e1];exact hI.long_new hk hc dk hX hY c dk R⟩,a⟩
theorem Qkl:zeroCells277.toList=zz 512++[.slice none 0 0]:=by kernel_rfl
theorem Tab.new(w:World)(t:TypeId):Tab (w.alloc (.cells zeroCells277 t)) w.heap.size (fun _=>(0,0)) 0 (fun _ _=>(0,0)):=by
 have hl:=Qoj 512;have aa:∀j u,(zz 512++[.slice none 0 0])[j]?=some u->(w.alloc (.cells zeroCells277 t)).cell? ⟨w.heap.size,j,none⟩=some u:=fun j u h=>by
  have h2:=Qfc w zeroCells277 t j u (by rw [Qkl];exact h);rw [Addr.add_lit,Nat.zero_add] at h2;exact h2
 refine ⟨⟨dr,fun i hi=>?_,fun i hi=>?_,fun o=>dF⟩,none,0,[],?_,World.ownsRow_nil _ _ _ _,fun j hj=>dk⟩
 ·refine aa _ _ ?_
  rw [Nat.zero_add,List.getElem?_append_left dk];exact (Qlv 512 i hi).1
 ·refine aa _ _ ?_
  rw [Nat.zero_add,List.getElem?_append_left dk];exact (Qlv 512 i hi).2
 ·refine aa _ _ ?_
  rw [List.getElem?_append_right dk,hl];rfl
theorem Qf6(zs:List Int)(ao:Option Addr)(cap n:Nat)(w:World)(hR:Qba w ao n (code zs))(hn:n=zs.length)(hn3:zs.length<=320)(ho:okL zs)(hk:SS zs 15<=32768):
  Calls prog 179 #[.slice ao n cap] w fun e w'=>∃p S m L,e=.returned (.pointer (some ⟨p,0,none⟩))/\w.heap.size<=p/\Tab w' p S m L/\TI zs n S m L/\Below w.heap.size w w':=by
 have aw:=Qg<|Tab.new w 277
 have av:dm (Below w.heap.size w (w.alloc (.cells zeroCells277 277))):=(Below.refl _ _).alloc (Nat.le_refl _) _;have HN:=Qg hn;have HR:=Qg hR;have HK:=Qg hk;have bz:=Qg ho;have bq:n<=320:=dk;clear hn hR hk ho;go_enter func179,ntmps179;go_wp2_with fail;go_loopw [10] (fun i wr=>∃k:Nat,k<=n/\i=.int .i64 k/\dm (∃S m L,Tab wr w.heap.size S m L/\TI zs k S m L)/\dm (Below w.heap.size w wr)) (fun i _=>n-(intOf i).toNat)
 case atStart=>exact ⟨0,Nat.zero_le _,rfl,⟨_,_,_,aw.u,TI.zero zs⟩,av⟩
 case round=>
  clear aw av;obtain ⟨k,f,rfl,HX,HB⟩:=hrel;by_cases ab:k<n
  ·obtain ⟨g,rfl,hC⟩:=HR.u dk
   obtain ⟨S,m,L,hT,hI⟩:=HX.u;have ad:g<w.heap.size:=World.block_lt_of_cell? w _ (hC.at0 k ab);have C:=(HB.u.cell (p:=⟨g,k*2,none⟩) ad).trans (hC.at0 k ab);have c1:=(HB.u.cell (p:=⟨g,k*2+1,none⟩) ad).trans (hC.at1 k ab);have c:=QhT k dk;by_cases H:ln zs k=0
   ·have B:code zs k=(0,0):=by rw [Qd1,if_pos H]
    rw [B] at C c1;refine nF ?_;intro d;have a1:dm (∀A t,∃S m L,Tab (wr.alloc (.cells A t)) w.heap.size S m L/\TI zs (k+1) S m L):=fun A t=>⟨S,m,L,hT.below ((Below.refl _ _).alloc (Nat.le_refl _) _),hI.skip H⟩
    clear hT hI hC HX H B;go_wp2_with fail;exact ⟨⟨k+1,dk,dw,a1.u _ _,d.u _ _⟩,dM⟩
   ·have I:VQ zs k:=VQ.of bz.u (by have:=HN.u;omega) H
    have aJ:code zs k=(ln zs k,tr (num zs k) (ln zs k)):=by rw [Qd1,if_neg H]
    rw [aJ] at C c1;have HP:=Qg (fun A t=>Qp1 zs k w.heap.size m S L (wr.alloc (.cells A t)) (hT.below ((Below.refl _ _).alloc (Nat.le_refl _) _)) hI I HK.u hn3);have b:(0:Int)<(ln zs k:Int):=by have:=I.pos;omega
    dsimp only at C c1;refine nF ?_;intro d;generalize ln zs k=X at*;generalize tr (num zs k) X=Y at*;clear hT hI hC HX H aJ I;go_wp2_with fail;refine Calls.mono (HP.u _ _) ?_;rintro e w' ⟨rfl,hX,a⟩;have z:=Qg<|(d.u _ _).trans (a w.heap.size (Nat.le_refl _))
    have r:=Qg hX;clear hX a;go_wp2_with fail;exact ⟨⟨k+1,dk,dw,r,z⟩,dM⟩
  ·have e:k=n:=dk
   subst e;obtain ⟨S,m,L,hT,hI⟩:=HX.u;have HT:=Qg hT;have P:=Qg hI;clear hT hI;go_wp2_with fail;go_ret;exact ⟨w.heap.size,S,m,L,rfl,Nat.le_refl _,HT.u,P.u,HB.u⟩
structure QaG(zs:List Int)(w:World)(p:Nat)(S:Nat->Nat×Nat)(m:Nat)(L:Nat->Nat->Nat×Nat):Prop where
 tab:Tab w p S m L
 l1:∀i,(S i).1<=16
 l2:∀i,(S i).1=16->(S i).2<m
 l3:∀i,(S i).2<=320
 l4:∀i j,(L i j).1<=15/\(L i j).2<=320
 ans:∀b n k s l:Nat,n<=64->Qcq (QaA S L (b%2^n)) n k s l->Qa8 zs b n k s l
theorem Qef(zs:List Int)(ao:Option Addr)(cap:Nat)(w:World)(hR:Qba w ao (nC zs) (code zs)):
  Calls prog 179 #[.slice ao (nC zs) cap] w fun e w'=>∃p S m L,e=.returned (.pointer (some ⟨p,0,none⟩))/\w.heap.size<=p/\QaG zs w' p S m L/\Below w.heap.size w w':=by
 by_cases A:okC zs=true
 ·obtain ⟨J,h2,h3⟩:=Qh5 A
  have c:nC zs=zs.length:=by simp [nC,A]
  rw [c] at hR ⊢;refine Calls.mono (Qf6 zs ao cap zs.length w hR rfl h2 J h3) ?_;rintro e w' ⟨p,S,m,L,rfl,N,hT,hI,a⟩;exact ⟨p,S,m,L,rfl,N,⟨hT,hI.l1,hI.l2,hI.l3,hI.l4,fun b n k s l hn ha=>Qa8.yes A hn (hI.ans h3 ha)⟩,a⟩
 ·have c:nC zs=0:=by simp [nC,A]
  rw [c];refine Calls.mono (Qf6 [] ao cap 0 w (fun h=>dk) rfl dr (fun z hz=>by cases hz) eg) ?_;rintro e w' ⟨p,S,m,L,rfl,N,hT,hI,a⟩;refine ⟨p,S,m,L,rfl,N,⟨hT,hI.l1,hI.l2,hI.l3,hI.l4,fun b n k s l hn ha=>?_⟩,a⟩;rcases hI.fit (b%2^n) with ⟨t,J,_⟩|⟨_,J⟩
  ·omega
  ·rw [J] at ha
   unfold Qcq at ha;rw [if_pos rfl] at ha;obtain ⟨rfl,rfl,rfl⟩:=ha;exact Qa8.no (fun h=>A h.1)
theorem QaG.next(zs:List Int)(p m b n:Nat)(S:Nat->Nat×Nat)(L:Nat->Nat->Nat×Nat)(w:World)(h:QaG zs w p S m L)(hb:b<2^64)(hn:n<=64):
  Calls prog 194 #[.pointer (some ⟨p,0,none⟩),.int .u64 b,.int .i64 n] w fun e w'=>(∃k s l:Nat,e=.returned (.agg #[.int .i64 k,.int .i64 s,.int .i64 l])/\Qa8 zs b n k s l)/\Below w.heap.size w w':=by
 refine Calls.mono (Qme p m b n 0 (b%2^n) S L w h.tab hb hn rfl h.l1 h.l2 h.l3 h.l4) ?_;rintro e w' ⟨⟨k,s,l,rfl,ha⟩,a⟩;exact ⟨⟨k,s,l,rfl,h.ans b n k s l hn ha⟩,a⟩
section
variable{B cap g:Nat}{w w':World}{zs:List Int}{ao:Option Addr}
def QR(B:Nat)(w:World)(ao:Option Addr)(cap:Nat)(zs:List Int):Prop:=w.ownsRow B 2 1 (.slice ao zs.length cap) zs.length (zs.map (Value.int .i64))
theorem QR.of{v:Value}{n:Nat}(h:w.ownsRow B 2 1 v n (zs.map (Value.int .i64))):∃ao cap,v=.slice ao zs.length cap/\QR B w ao cap zs:=by
 refine fD ?_;intro hl;subst hl;rcases h.2 with ⟨rfl,H⟩|⟨g,cap,M,rfl,h2⟩
 ·refine ⟨none,0,by rw [H],?_⟩
  unfold QR;rw [H] at h ⊢;exact h
 ·exact ⟨_,cap,rfl,h⟩
theorem QR.grown{row:Option Nat}(h:QR B w ao cap zs)(hg:w.grownBy w' row)(hne:∀k,row=some k->Qt ao≠some k):QR B w' ao cap zs:=mB
theorem QR.below(h:QR B w ao cap zs)(hb:Below w.heap.size w w'):QR B w' ao cap zs:=
 h.grown (Qk hb none) (fun _ e=>dx)
theorem QR.base(h:QR B w ao cap zs):∀g,Qt ao=some g->B<=g:=oi
theorem QR.at(h:QR B w ao cap zs)(h0:0<zs.length):∃g,ao=some ⟨g,0,none⟩/\B<=g/\g<w.heap.size/\zs.length<=cap:=oj
theorem QR.row(h:QR B w ao cap zs):Qv w ao zs:=by
 by_cases H:0<zs.length
 ·obtain ⟨g,rfl,_⟩:=h.at H
  exact Qv.owned h
 ·intro i hi
  omega
theorem QR.cell(h:QR B w (some ⟨g,0,none⟩) cap zs){k:Nat}(hk:k<zs.length):w.cell? ⟨g,k,none⟩=some (.int .i64 (zs.getD k 0)):=om
theorem QR.set(h:QR B w (some ⟨g,0,none⟩) cap zs)(k:Nat)(x:Int):QR B (w.setCell ⟨g,k,none⟩ (.int .i64 x)) (some ⟨g,0,none⟩) cap (zs.set k x):=by
 have J:=(World.ownsRow.stored h k (.int .i64 x)).1;unfold QR;rw [List.length_set,List.map_set];exact J
theorem Qr6(w:World)(B:Nat)(hB:B<=w.heap.size):QR B (w.alloc (.cells #[] 2)) (some ⟨w.heap.size,0,none⟩) 0 []:=
 World.ownsRow_lit w #[] 0 hB dy rfl
theorem VK(ao:Option Addr)(n cap:Nat):(Value.slice ao n cap).ownBlock=Qt ao:=by cases ao<;>rfl
theorem Qdz(w:World)(x:Value)(t:TypeId):∀j u,([x]:List Value)[j]?=some u->(w.alloc (.cells #[x] t)).cell? ((⟨w.heap.size,0,none⟩:Addr).add j)=some u:=by
 intro j u h;exact Qfc w #[x] t j u h
theorem Tryz.info_i64d:(prog.info? 2).map (fun i=>(i.zero,i.size,i.bytes))=some (some (.int .i64 0),1,8):=by kernel_rfl
theorem QR.free(h:QR B w (some ⟨g,0,none⟩) cap zs)(k:Nat):w.frozen? ⟨g,k,none⟩=false:=World.ownsRow.frozenAt h k
end
end Go.Proofs.YtgginbpmebgkcaaGreatDoor
namespace Go.Proofs.YtgginbpmebgkcaaGreatDoor
open Go.RowKit Go.Proofs.Tryz
set_option linter.unusedVariables false
set_option maxRecDepth 100000
set_option maxHeartbeats 25600000
def cb(zs:List Int)(s:Nat):Nat:=tr (num zs s) (ln zs s)
theorem Qr7(zs:List Int)(s:Nat):cb zs s<2^ln zs s:=Qhb _ _
theorem Qpm{zs:List Int}{s:Nat}(h:ln zs s≠0):code zs s=(ln zs s,cb zs s):=by rw [Qd1,if_neg h];rfl
end Go.Proofs.YtgginbpmebgkcaaGreatDoor
