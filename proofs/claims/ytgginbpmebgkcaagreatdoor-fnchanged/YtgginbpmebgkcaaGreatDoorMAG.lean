import Derived.Deep.LoopGhost
import Derived.Test.YtgginbpmebgkcaaGreatDoorMAE
import Derived.Test.YtgginbpmebgkcaaGreatDoorMAF
namespace Go.Proofs.YtgginbpmebgkcaaGreatDoor
open Go.RowKit Go.Proofs.Tryz
attribute [local go_sem ↓] Go.wp_at_zero Go.wp_at_succ
set_option linter.unusedVariables false
set_option maxRecDepth 100000
set_option maxHeartbeats 25600000
section
variable{zs:List Int}{i p hB cap:Nat}{w w':World}{ao:Option Addr}
theorem Qe{p:Prop}(h:p):dm p:=h
theorem Qhf(zs:List Int)(hz:Qh zs)(k:Nat)(hk:k<=zs.length):bnum (zs.drop k)=bnum zs/256^k:=by
 have h:=VX (zs.take k) (zs.drop k);rw [List.take_append_drop] at h;have hl:(zs.take k).length=k:=dS;have hb:=Qb1 (zs.take k) (hz.take k);rw [hl] at h hb;rw [h,Nat.add_mul_div_left _ _ (Nat.pow_pos dn),Nat.div_eq_of_lt hb,Nat.zero_add]
theorem Qdl(zs:List Int)(hz:Qh zs)(i n:Nat)(hi:i<=8*zs.length):field (bnum (zs.drop (i/8))) (i%8) n=field (bnum zs) i n:=by
 unfold field;rw [Qhf zs hz (i/8) dk,Qlc,Nat.div_div_eq_div_mul,<-Nat.pow_add,show 8*(i/8)+i%8=i from dk]
structure Rd(w:World)(p hB:Nat)(zs:List Int)(i:Nat):Prop where
 le:i<=8*zs.length
 ne:hB≠p
 src:∃ao cap,Src w p (.slice ao (zs.drop (i/8)).length cap) ((i%8:Nat):Int) (i:Int)/\Q1 w ao (zs.drop (i/8))/\(zs.drop (i/8)).length<=cap/\(∀ad,ao=some ad->ad.block=hB)/\(ao=none->cap=0)
theorem Rd.lt(h:Rd w p hB zs i):p<w.heap.size:=by
 obtain ⟨_,_,X,G,E,_⟩:=h;exact World.block_lt_of_cell? w _ E.1
theorem Rd.grown{row:Option Nat}(h:Rd w p hB zs i)(hg:w.grownBy w' row)(hp:some p≠row)(hr:some hB≠row):Rd w' p hB zs i:=by
 obtain ⟨hl,an,X,G,E,J,h2,h3⟩:=h;exact ⟨hl,an,X,G,E.grown hg hp,J.grown hg (fun ad e=>by rw [h3.1 ad e];exact hr),h2,h3⟩
theorem Rd.below(h:Rd w p hB zs i)(hb:Below w.heap.size w w'):Rd w' p hB zs i:=by
 obtain ⟨hl,an,X,G,E,J,h2,h3⟩:=h;exact ⟨hl,an,X,G,E.grown (Qk hb none) dr,J.below hb,h2,h3⟩
theorem Rd.vld(hl:i<=8*zs.length)(hz:zs.length<=65536):vld (zs.drop (i/8)).length ((i%8:Nat):Int) (i:Int)=true:=by
 refine (Qnh ?_).symm;rw [List.length_drop];refine ⟨dk,dk,?_,dk,dk,dk,dk⟩;by_cases h:i%8=0
 ·left;omega
 ·right;omega
theorem Qlz(a:Addr)(k:Nat):(a.add k).block=a.block:=by
 unfold Addr.add;split<;>rfl
theorem Qes{k:Nat}{ad:Addr}(e:Qa2 ao cap k=some ad):∃a,ao=some a/\ad.block=a.block:=by
 unfold Qa2 at e;split at e
 ·exact ⟨ad,e,rfl⟩
 ·cases ao with
  | none=>cases e
  | some a=>
   refine ⟨a,rfl,?_⟩;rw [Option.map_some,Option.some.injEq] at e;rw [<-e];exact Qlz a k
theorem Rd.moved{n:Nat}(hn:i+n<=8*zs.length)(hs':Src w' p (.slice (Qa2 ao cap ((((i%8:Nat):Int)+(n:Int))/8).toNat) ((zs.drop (i/8)).length-((((i%8:Nat):Int)+(n:Int))/8).toNat) (cap-((((i%8:Nat):Int)+(n:Int))/8).toNat)) ((((i%8:Nat):Int)+(n:Int))%8) ((i:Int)+(n:Int)))(hr:Q1 w ao (zs.drop (i/8)))(hc:(zs.drop (i/8)).length<=cap)(hne:hB≠p)(hb:(∀ad,ao=some ad->ad.block=hB)/\(ao=none->cap=0))(hg:w.grownBy w' (some p)):Rd w' p hB zs (i+n):=by
 have hk:((((i%8:Nat):Int)+(n:Int))/8).toNat=(i%8+n)/8:=dk;have hd:(zs.drop (i/8)).drop ((i%8+n)/8)=zs.drop ((i+n)/8):=by rw [List.drop_drop];congr 1;omega
 refine ⟨hn,hne,Qa2 ao cap ((i%8+n)/8),cap-(i%8+n)/8,?_,?_,?_,?_⟩
 ·rw [hk] at hs'
  rw [<-hd,List.length_drop];rw [show ((((i+n)%8:Nat)):Int)=(((i%8:Nat):Int)+(n:Int))%8 from dk,show ((i+n:Nat):Int)=(i:Int)+(n:Int) from dk];exact hs'
 ·rw [<-hd]
  exact (hr.cut hc).grown hg (fun ad e he=>by
   obtain ⟨a,e1,e2⟩:=Qes e;exact hne (by rw [<-hb.1 a e1,<-e2];simpa using he))
 ·rw [<-hd,List.length_drop];omega
 ·refine ⟨fun ad e=>?_,fun e=>?_⟩
  ·obtain ⟨a,e1,e2⟩:=Qes e
   rw [e2];exact hb.1 a e1
  ·have H:ao=none:=by
    cases ao with
    | none=>rfl
    | some a=>
     unfold Qa2 at e;split at e
     ·exact e
     ·cases e
   have:=hb.2 H;omega
theorem QoQ(p hB:Nat)(zs:List Int)(i n:Nat)(w:World)(h:Rd w p hB zs i)(hz:Qh zs)(hzl:zs.length<=65536)(n1:n<=32)(hn:i+n<=8*zs.length):
  Calls prog 153 #[.agg #[.pointer (some ⟨p,0,none⟩)],.int .i64 n] w fun e w'=>e=.returned (.tuple #[.int .u64 (field (bnum zs) i n:Nat),.bool true])/\Rd w' p hB zs (i+n)/\w.grownBy w' (some p):=by
 obtain ⟨hl,an,X,G,E,y,I,hb⟩:=h;have f:Qc5 (zs.drop (i/8)).length ((i%8:Nat):Int) (i:Int) (n:Int)=true:=by
  rw [List.length_drop,<-Qiq dk];exact decide_eq_true dk
 refine Calls.mono (QnO p X G (zs.drop (i/8)) ((i%8:Nat):Int) (i:Int) n w E y (hz.drop _) I (Rd.vld hl hzl) n1 f) ?_;rintro e w' ⟨rfl,c,O⟩;exact ⟨by rw [Int.toNat_natCast,Qdl zs hz i n hl],Rd.moved hn c y I an hb O,O⟩
theorem Qj6(p hB:Nat)(zs:List Int)(i n:Nat)(w:World)(h:Rd w p hB zs i)(hzl:zs.length<=65536)(n1:n<=32)(hn:¬i+n<=8*zs.length):
  Calls prog 153 #[.agg #[.pointer (some ⟨p,0,none⟩)],.int .i64 n] w fun e w'=>e=.returned (.tuple #[.int .u64 0,.bool false])/\Below w.heap.size w w':=by
 obtain ⟨hl,an,X,G,E,y,I,hb⟩:=h;refine Qpc p X (zs.drop (i/8)).length G ((i%8:Nat):Int) (i:Int) n w E (Rd.vld hl hzl) (.inr (.inr ⟨dk,dk,?_⟩));exact (Qlj eH).symm
end
def flt(c:Int):Value:=.iface 175 (.agg #[.int .i64 c])
theorem Q7(q p hB:Nat)(zs:List Int)(i n:Nat)(w:World)(hm:w.cell? ⟨q,0,none⟩=some (.pointer (some ⟨p,0,none⟩)))(h:Rd w p hB zs i)(hz:Qh zs)(hzl:zs.length<=65536)(n1:n<=32)(hn:i+n<=8*zs.length):
  Calls prog 107 #[.pointer (some ⟨q,0,none⟩),.int .i64 n] w fun e w'=>e=.returned (.tuple #[.int .i64 (field (bnum zs) i n:Nat),.nilIface])/\Rd w' p hB zs (i+n)/\w.grownBy w' (some p):=by
 have HT:=Qe<|QoQ p hB zs i n w h hz hzl n1 hn
 have Q:field (bnum zs) i n<2^32:=Nat.lt_of_lt_of_le (Q4 _ _ _) (Nat.pow_le_pow_right dn n1);clear h;generalize field (bnum zs) i n=F at*;go_enter func107,ntmps107;go_wp2_with fail;refine Calls.mono HT.u ?_;rintro e w' ⟨rfl,P,O⟩;have HR:=Qe P;have HG:=Qe O;have A:IntKind.i64.wrap (F:Int)=(F:Int):=jm;clear P O HT Q;go_wp2_with fail;exact bodyPost_ret (v:=.tuple #[.int .i64 F,.nilIface]) (by simp [results,results107,go_sem]) rfl ⟨rfl,HR.u,HG.u⟩
theorem Vi(q p hB:Nat)(zs:List Int)(i n:Nat)(w:World)(hm:w.cell? ⟨q,0,none⟩=some (.pointer (some ⟨p,0,none⟩)))(h:Rd w p hB zs i)(hzl:zs.length<=65536)(n1:n<=32)(hn:¬i+n<=8*zs.length):
  Calls prog 107 #[.pointer (some ⟨q,0,none⟩),.int .i64 n] w fun e w'=>e=.returned (.tuple #[.int .i64 0,flt 2])/\Below w.heap.size w w':=by
 have HT:=Qe<|Qj6 p hB zs i n w h hzl n1 hn
 clear h;go_enter func107,ntmps107;go_wp2_with fail;refine Calls.mono HT.u ?_;rintro e w' ⟨rfl,hb⟩;have HB:=Qe hb;clear hb HT;go_wp2_with fail;exact bodyPost_ret (v:=.tuple #[.int .i64 0,flt 2]) (by simp [results,results107,go_sem,flt]) rfl ⟨rfl,HB.u⟩
theorem Qai(W:World)(a:Addr)(f:Fn)(x y:Array Value)(old:Value)(h:W.cell? a=some old)(hf:W.frozen? a=false):Sem.run prog (store a (.func f x y)) W=.ok () (W.setCell a (.func f x y)):=by
 rw [run_store prog W a _ _ (by rfl)];simp [h,hf]
theorem Qfy(w:World)(a b c d:Obj)(r:Option Nat):w.grownBy ((((w.alloc a).alloc b).alloc c).alloc d) r:=
 Qj (Qj (Qj (World.grownBy_alloc w a r) (World.grownBy_alloc _ b r)) (World.grownBy_alloc _ c r)) (World.grownBy_alloc _ d r)
theorem Qg3(c:Int)(g:Nat)(old:Value)(w:World)(hg:w.cell? ⟨1,0,none⟩=some (.iface 257 (.agg #[.pointer (some ⟨3,131,none⟩)])))(ht0:w.cell? ⟨g,0,none⟩=some old)(hf0:w.frozen? ⟨g,0,none⟩=false):
  Calls prog 113 #[.iface 175 (.agg #[.int .i64 c]),.iface 181 (.pointer (some ⟨g,0,none⟩))] w fun ev w'=>ev=.returned (.bool true)/\w'.cell? ⟨g,0,none⟩=some (.int .i64 c)/\w.grownBy w' (some g):=by
 refine Calls.mono (Qno c ⟨g,0,none⟩ old w hg ht0 hf0) ?_;rintro e w' ⟨rfl,rfl⟩;have J:=Qfy w (.cells #[.pointer (some ⟨g,0,none⟩)] 181) (.cells #[.pointer (some ⟨3,181,none⟩),.pointer (some ⟨w.heap.size,0,none⟩),.int .u64 150] 220) (.cells #[.pointer (some ⟨3,181,none⟩),.pointer (some ⟨w.heap.size,0,none⟩),.int .u64 150] 220) (.cells #[.int .i64 c] 175);refine ⟨rfl,?_,Qj (J _) (Qf _ ⟨g,0,none⟩ _)⟩;exact World.cell?_setCell_same _ _ _ ((J none).cell ht0 dr)
theorem Qhs(q:Nat)(w:World)(hq:q<w.heap.size)(hg:w.cell? ⟨1,0,none⟩=some (.iface 257 (.agg #[.pointer (some ⟨3,131,none⟩)]))):
  Calls prog 76 #[.pointer (some ⟨q,0,none⟩),flt 2] w fun e w'=>e=.returned (.int .i64 2)/\Below w.heap.size w w':=by
 have ab:1<w.heap.size:=World.block_lt_of_cell? w _ hg;refine mK ?_;intro w1 s c1 f1;have g1:w1.cell? ⟨1,0,none⟩=some (.iface 257 (.agg #[.pointer (some ⟨3,131,none⟩)])):=mL;have HA:=Qe<|Qg3 2 w.heap.size (.int .i64 0) w1 g1 c1 f1
 have o:dm (Below w.heap.size w w1):=mM;have L:w.heap.size<w1.heap.size:=World.block_lt_of_cell? w1 _ c1;clear g1 c1 f1;unfold flt;go_enter func76,ntmps76;go_wp2_with fail;refine Calls.mono HA.u ?_;rintro e w2 ⟨rfl,c2,ag⟩;have d:=Qe<|o.u.grown ag (Nat.le_of_lt L) (fun k e=>dJ)
 clear ag HA s;go_wp2_with fail;go_ret;exact ⟨rfl,d.u⟩
theorem Qkf(q:Nat)(c:Int)(old:Value)(w:World)(hc:¬c=2)(h1:w.cell? ⟨q,1,none⟩=some old)(hf:w.frozen? ⟨q,1,none⟩=false)(hg:w.cell? ⟨1,0,none⟩=some (.iface 257 (.agg #[.pointer (some ⟨3,131,none⟩)]))):
  Calls prog 76 #[.pointer (some ⟨q,0,none⟩),flt c] w fun e w'=>e=.returned (.int .i64 c)/\∃w2 v,Below w.heap.size w w2/\w'=w2.setCell ⟨q,1,none⟩ v:=by
 have ab:1<w.heap.size:=World.block_lt_of_cell? w _ hg;have hq:q<w.heap.size:=World.block_lt_of_cell? w _ h1;refine mK ?_;intro w1 s c1 f1;have g1:w1.cell? ⟨1,0,none⟩=some (.iface 257 (.agg #[.pointer (some ⟨3,131,none⟩)])):=mL;have HA:=Qe<|Qg3 c w.heap.size (.int .i64 0) w1 g1 c1 f1
 have H:Below w.heap.size w w1:=mM;have L:w.heap.size<w1.heap.size:=World.block_lt_of_cell? w1 _ c1;have o:=Qe H;have aO:(c != 2)=true:=by simp [hc]
 clear g1 c1 f1 H;unfold flt;go_enter func76,ntmps76;go_wp2_with fail;refine Calls.mono HA.u ?_;rintro e w2 ⟨rfl,c2,ag⟩;have ae:=o.u.grown ag (Nat.le_of_lt L) (fun k e=>dJ);have d1:=(ae.cell (p:=⟨q,1,none⟩) hq).trans h1;have e1:=(ae.frozen (p:=⟨q,1,none⟩) hq).trans hf;have G:=Qe ae;have d:=fun x=>Qai w2 ⟨q,1,none⟩ (Fn.func 114) x #[] old d1 e1
 clear ag HA s ae h1 hf;go_wp2_with fail;go_ret;exact ⟨rfl,_,_,G.u,rfl⟩
section
theorem nH{P:Prop}(h:P:=by
 clear hn'
 rw [V] at A a x z ⊢;have t:=Qe V;clear V;go_wp2_with fail;go_roundg (μ c')
 case measure=>rw [<-Hμ.u];exact aD.u
 case rel=>
  refine ⟨c',rfl,a,?_,ai,z⟩;show _=_;rw [t.u];exact x.u):P:=h
section
variable {C : Type}
def Qa4(now:C->Option (Nat×Array Value))(c:C):Value:=match now c with|none=>.nilFunc|some (f,caps)=>.func (Fn.func f) caps #[]
def QpX(now:C->Option (Nat×Array Value))(step:C->C⊕(Int×C)):Nat->C->Int->C->Prop
 | 0,_,_,_=>False
 | n+1,c,k,cf=>(now c=none/\k=1/\cf=c)\/(now c≠none/\step c=.inr (k,cf))\/(now c≠none/\∃c',step c=.inl c'/\QpX now step n c' k cf)
def Vo(now:C->Option (Nat×Array Value))(step:C->C⊕(Int×C))(c:C)(k:Int)(cf:C):Prop:=∃n,QpX now step n c k cf
theorem Vo.fin{now:C->Option (Nat×Array Value)}{step:C->C⊕(Int×C)}{c:C}(h:now c=none):Vo now step c 1 c:=⟨1,.inl ⟨h,rfl,rfl⟩⟩
theorem Vo.bad{now:C->Option (Nat×Array Value)}{step:C->C⊕(Int×C)}{c cf:C}{k:Int}(h:now c≠none)(hs:step c=.inr (k,cf)):Vo now step c k cf:=⟨1,.inr (.inl ⟨h,hs⟩)⟩
theorem Vo.more{now:C->Option (Nat×Array Value)}{step:C->C⊕(Int×C)}{c c' cf:C}{k:Int}(h:now c≠none)(hs:step c=.inl c')(h2:Vo now step c' k cf):Vo now step c k cf:=jw
def Q3(now:C->Option (Nat×Array Value))(Mem:World->C->Prop)(B:Nat)(r:C⊕(Int×C))(e:Ending)(w w':World):Prop:=
 (∀c',r=.inl c'->e=.returned (.tuple #[Qa4 now c',.nilIface])/\Mem w' c'/\Below B w w')/\(∀k cf,r=.inr (k,cf)->∃v,e=.returned (.tuple #[v,flt k])/\Mem w' cf/\Below B w w')
def Qhl(now:C->Option (Nat×Array Value))(step:C->C⊕(Int×C))(Mem:World->C->Prop)(B:Nat)(c0:C)(w:World)(e:Ending)(w':World):Prop:=∃k cf,e=.returned (.int .i64 k)/\Vo now step c0 k cf/\Mem w' cf/\Below B w w'
theorem Qnz(f:Fn)(x y:Array Value)(w:World):Sem.run prog (binOp BinOp.neq 65 (.func f x y) .nilFunc) w=.ok (.bool true) w:=by kernel_rfl
theorem Qow(w:World):Sem.run prog (binOp BinOp.neq 65 .nilFunc .nilFunc) w=.ok (.bool false) w:=by kernel_rfl
theorem QfQ(W:World)(a:Addr)(old:Value)(h:W.cell? a=some old)(hf:W.frozen? a=false):Sem.run prog (store a .nilFunc) W=.ok () (W.setCell a .nilFunc):=by
 rw [run_store prog W a _ _ (by rfl)];simp [h,hf]
theorem QlI(now:C->Option (Nat×Array Value))(c:C)(W:World)(a:Addr)(old:Value)(h:W.cell? a=some old)(hf:W.frozen? a=false):Sem.run prog (store a (Qa4 now c)) W=.ok () (W.setCell a (Qa4 now c)):=by
 unfold Qa4;split
 ·exact QfQ W a old h hf
 ·exact Qai W a _ _ _ old h hf
theorem QkN(q B:Nat)(now:C->Option (Nat×Array Value))(Mem:World->C->Prop)(step:C->C⊕(Int×C))(μ:C->Nat)(hBq:B<=q)(hgo:∀c f caps,now c=some (f,caps)->∀args W,Sem.run prog (callFunc f args) W=.ok (.enter f args) W)(hcell:∀W c,Mem W c->(∃old,W.cell? ⟨q,1,none⟩=some old)/\W.frozen? ⟨q,1,none⟩=false/\W.cell? ⟨1,0,none⟩=some (.iface 257 (.agg #[.pointer (some ⟨3,131,none⟩)])))(hset:∀W c v,Mem W c->Mem (W.setCell ⟨q,1,none⟩ v) c)(hbel:∀W W' c,Mem W c->Below W.heap.size W W'->Mem W' c)(hstep:∀W c f caps,now c=some (f,caps)->Mem W c->Calls prog f caps W fun e W'=>Q3 now Mem B (step c) e W W')(hμ:∀c c',now c≠none->step c=.inl c'->μ c'<μ c)(c0:C)(w:World)(hM:Mem w c0)(hn:w.cell? ⟨q,1,none⟩=some (Qa4 now c0)):
  Calls prog 36 #[.pointer (some ⟨q,0,none⟩)] w fun e w'=>Qhl now step Mem B c0 w e w':=by
 have K:=Qe hgo;have HC:=Qe hcell;have HS:=Qe hset;have aQ:=Qe hbel;have ak:=Qe hstep;have a9:=Qe hμ;have HM:=Qe hM;have HN:=Qe hn;clear hgo hcell hset hbel hstep hμ hM hn;go_enter func36,ntmps36;go_wp2_with fail;go_loopg [3] (μ c0) (fun n _ wr=>∃c:C,dm (μ c=n)/\dm (Mem wr c)/\dm (wr.cell? ⟨q,1,none⟩=some (Qa4 now c))/\dm (∀k b,Vo now step c k b->Vo now step c0 k b)/\dm (Below B w wr))
 case atStart=>exact ⟨c0,rfl,HM,HN,(fun _ _ h=>h),Below.refl _ _⟩
 case round=>
  clear HM HN;obtain ⟨c,Hμ,HM,HN,HE,HB⟩:=hrel;obtain ⟨⟨old,D⟩,af,F⟩:=HC.u wr c HM.u;have L:=Qow;have an:=Qnz;cases hnow:now c with
  | none=>
   have J:wr.cell? ⟨q,1,none⟩=some .nilFunc:=by rw [HN.u,Qa4,hnow]
   have HF:=Qe<|HE.u 1 c (.fin hnow)
   clear hnow D;go_wp2_with fail;go_ret;exact ⟨1,c,rfl,HF.u,HM.u,HB.u⟩
  | some fc=>
   obtain ⟨f,caps⟩:=fc;have J:wr.cell? ⟨q,1,none⟩=some (.func (Fn.func f) caps #[]):=by rw [HN.u,Qa4,hnow]
   have hgo:=K.u c f caps hnow;have l:=Qe<|ak.u wr c f caps hnow HM.u
   have ah:dm (now c≠none):=by rw [hnow];intro e;cases e
   clear D hnow;go_wp2_with fail;refine Calls.mono l.u ?_;rintro e w2 ⟨M,j⟩;cases hst:step c with
   | inl c'=>
    obtain ⟨rfl,u,ae⟩:=M c' hst;obtain ⟨⟨i,g⟩,s,o⟩:=HC.u w2 c' u;have A:=QlI now c' w2 ⟨q,1,none⟩ i g s;have a:=Qe<|HS.u w2 c' (Qa4 now c') u
    have x:dm ((w2.setCell ⟨q,1,none⟩ (Qa4 now c')).cell? ⟨q,1,none⟩=some (Qa4 now c')):=World.cell?_setCell_same _ _ _ g;have z:=Qe<|(HB.u.trans ae).setCell (p:=⟨q,1,none⟩) hBq (Qa4 now c')
    have ai:dm (∀k b,Vo now step c' k b->Vo now step c0 k b):=fun k b h=>HE.u k b (.more ah.u hst h)
    have aD:=Qe<|a9.u c c' ah.u hst
    clear M j u ae hst l;cases hn':now c' with
    | none=>
     have V:Qa4 now c'=.nilFunc:=by rw [Qa4,hn']
     exact nH
    | some fc'=>
     obtain ⟨N,G⟩:=fc'
     have V:Qa4 now c'=.func (Fn.func N) G #[]:=by rw [Qa4,hn']
     exact nH
   | inr kc=>
    obtain ⟨k,b⟩:=kc;obtain ⟨v,rfl,u,ae⟩:=j k b hst;obtain ⟨⟨i,g⟩,s,o⟩:=HC.u w2 b u;have aa:q<w2.heap.size:=World.block_lt_of_cell? w2 _ g;have HF:=Qe<|HE.u k b (.bad ah.u hst)
    have I:=Qe u;have d:=Qe<|HB.u.trans ae
    have y:=Qe<|Qhs q w2 aa o
    have bH:=Qe (fun h=>Qkf q k i w2 h g s o);clear M j u ae hst l;have E:B<=w2.heap.size:=dk;by_cases hk:k=2
    ·subst hk
     unfold flt at y ⊢;go_wp2_with fail;refine Calls.mono y.u ?_;rintro e w3 ⟨rfl,r⟩;have a:=Qe<|aQ.u w2 w3 b I.u r
     have z:=Qe<|d.u.trans (r.mono E)
     clear r y bH;go_wp2_with fail;go_ret;exact ⟨2,b,rfl,HF.u,a.u,z.u⟩
    ·have m:=Qe<|bH.u hk
     unfold flt at m ⊢;go_wp2_with fail;refine Calls.mono m.u ?_;rintro e w3 ⟨rfl,w4,v4,T,rfl⟩;have a:=Qe<|HS.u w4 b v4 (aQ.u w2 w4 b I.u T)
     have z:=Qe<|(d.u.trans (T.mono E)).setCell (p:=⟨q,1,none⟩) hBq v4
     clear T y bH m;go_wp2_with fail;go_ret;exact ⟨k,b,rfl,HF.u,a.u,z.u⟩
end
end
end Go.Proofs.YtgginbpmebgkcaaGreatDoor
