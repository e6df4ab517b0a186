import Derived.Deep.AppendLies
import Derived.Test.YtgginbpmebgkcaaGreatDoorMBD
import Derived.Test.YtgginbpmebgkcaaGreatDoorMBQ
namespace Go.Proofs.YtgginbpmebgkcaaGreatDoor
open Go.RowKit Go.Proofs.Tryz
set_option maxRecDepth 100000
set_option maxHeartbeats 25600000
section
variable {KH : Nat → Option Obj}
attribute [local go_sem ↓] Go.wp_at_zero Go.wp_at_succ
set_option linter.unusedVariables false
theorem QhE(q n cap st g:Nat)(w:World)(h:w.cell? ⟨q,30,none⟩=some (.slice (some ⟨g,0,none⟩) n cap))(hn:n<=cap)(hc:cap<=maxLen)(hs:st<=n):
  Calls prog 112 #[.pointer (some ⟨q,0,none⟩),.int .i64 (st:Nat)] w fun e w'=>(∃a,e=.returned (.slice a (n-st) (cap-st))/\(a=some ⟨g,st,none⟩\/n-st=0))/\w'=w:=by
 unfold maxLen at hc;go_enter func112,ntmps112;go_wp2_with fail
 ·exact rV
 ·exact rV
theorem QbE(q cap st B:Nat)(ao:Option Addr)(out:List Int)(w:World)(h:w.cell? ⟨q,30,none⟩=some (.slice ao out.length cap))(hO:Qi 5 B w ao cap out)(hs:st<=out.length):
  Calls prog 112 #[.pointer (some ⟨q,0,none⟩),.int .i64 (st:Nat)] w fun e w'=>∃a cp,e=.returned (.slice a (out.drop st).length cp)/\Q1 w a (out.drop st)/\(out.drop st).length<=cp/\w'=w:=by
 have hm:=hO.mine;rw [List.length_drop];cases ao with
 | none=>
  obtain ⟨J,h2⟩:=hm.nil_len rfl;have h3:out=[]:=List.length_eq_zero_iff.1 J;subst h3;have h4:st=0:=by simpa using hs
  subst h4;refine Calls.mono (Qbp q 0 cap none w h dk hm.most (fun _=>⟨rfl,h2⟩)) ?_;rintro e w' ⟨rfl,rfl⟩;exact ⟨none,cap,rfl,Q1.nil _ _,dr,rfl⟩
 | some ad=>
  obtain ⟨g,rfl⟩:∃g,ad=⟨g,0,none⟩:=by
   rcases hO.2 with ⟨U,_⟩|⟨g',r,M,U,_⟩
   ·simp at U
   ·simp only [Value.slice.injEq] at U
    exact ⟨g',by injection U.1⟩
  refine Calls.mono (QhE q out.length cap st g w h hm.fits hm.most hs) ?_;rintro e w' ⟨⟨a,rfl,ha⟩,rfl⟩;have Q:=hm.fits;refine ⟨a,cap-st,rfl,?_,dk,rfl⟩;rcases ha with rfl|h6
  ·have:=hm.row.dropped st
   simpa using this
  ·have:out.drop st=[]:=List.length_eq_zero_iff.1 (by rw [List.length_drop];exact h6)
   rw [this];exact Q1.nil _ _
theorem QoV(z q p hB g s B:Nat)(zs:List Int)(aft:Value)(c:IC)(w:World)(hM:Q2 KH q p hB g s B zs aft w c)(hz0:w.cell? ⟨z,0,none⟩=some (.pointer (some ⟨q,0,none⟩)))(hzp:z≠p)(hzl:zs.length<=65536)(hn:¬(c.lc.i+7)/8*8+32<=8*zs.length):
  Calls prog 78 #[.pointer (some ⟨z,0,none⟩)] w fun e w'=>e=.returned (.tuple #[.nilFunc,flt 2])/\Q2 KH q p hB g s B zs aft w' (Vl c ((c.lc.i+7)/8*8))/\Below B w w':=by
 refine iI ?_;intro q0 HM AL;generalize (c.lc.i+7)/8*8=j at*;have E:=Qe hM.bs;clear hM;go_enter func78,ntmps78;go_wp2_with fail;refine Calls.mono AL.u ?_;rintro e w1 ⟨rfl,P,O⟩;refine kT ?_;intro M1 B1 k1;have HF:=Qe<|Vi q p hB zs j 32 w1 M1.u.lm.c0 P hzl dn hn
 have L:q<w1.heap.size:=M1.u.lt;unfold flt at HF;clear P O AL HM hz0;go_wp2_with fail;refine Calls.mono HF.u ?_;rintro e w2 ⟨rfl,hb⟩;have o:=Qe<|M1.u.below hb
 have B2:=Qe<|B1.u.trans (hb.mono (show B<=w1.heap.size from eP))
 clear hb HF M1 B1;go_wp2_with fail;exact bodyPost_ret (v:=.tuple #[.nilFunc,flt 2]) rW rfl ⟨rfl,o.u,B2.u⟩
theorem Qod(z q p hB g s B st:Nat)(zs:List Int)(aft:Value)(c:IC)(w:World)(hM:Q2 KH q p hB g s B zs aft w c)(hz0:w.cell? ⟨z,0,none⟩=some (.pointer (some ⟨q,0,none⟩)))(hz13:w.cell? ⟨z,13,none⟩=some (.int .i64 (st:Nat)))(hzp:z≠p)(hz:Qh zs)(hzl:zs.length<=65536)(hn:(c.lc.i+7)/8*8+32<=8*zs.length)(hst:st<=c.u.length)(hol:c.u.length<=65536)(hoc:Qh c.u):
  Calls prog 78 #[.pointer (some ⟨z,0,none⟩)] w fun e w'=>e=.returned (.tuple #[if field (bnum zs) ((c.lc.i+7)/8*8) 32=crcU 0 (c.u.drop st) then gF 117 z else .nilFunc,if field (bnum zs) ((c.lc.i+7)/8*8) 32=crcU 0 (c.u.drop st) then .nilIface else flt 4])/\Q2 KH q p hB g s B zs aft w' (Vl c ((c.lc.i+7)/8*8+32))/\Below B w w':=by
 refine iI ?_;intro q0 HM AL;generalize (c.lc.i+7)/8*8=j at*;have E:=Qe hM.bs;clear hM;have I:Qh (c.u.drop st):=Qjr hoc st;have r:(c.u.drop st).length<=65536:=eH;obtain ⟨F,C⟩:=dt (field (bnum zs) j 32);obtain ⟨Y,hY⟩:∃Y:Nat,crcU 0 (c.u.drop st)=Y:=⟨_,rfl⟩;have Z:F<4294967296:=by rw [<-C];exact Nat.mod_lt _ dn
 have f:=Qe (fun W a b=>Q7 q p hB zs j 32 W a b hz hzl dn hn);have k:=Qe (fun W a cp (h1:Q1 W a (c.u.drop st)) (h2:(c.u.drop st).length<=cp)=>Ql0 0 dn a cp (c.u.drop st) (c.u.drop st).length rfl W h1 I h2 r);have M:Crc.cr (0^^^4294967295) (c.u.drop st)^^^4294967295=Y:=hY;rw [M] at k;rw [C] at f;rw [C,hY];have U:IntKind.u32.wrap (F:Int)=(F:Int):=kM;obtain ⟨bb,t⟩:=dt (((F:Int) != (Y:Int)));have hV:(if F=Y then gF 117 z else Value.nilFunc)=(if bb=true then Value.nilFunc else gF 117 z)/\(if F=Y then Value.nilIface else flt 4)=(if bb=true then flt 4 else Value.nilIface):=by
  by_cases h:F=Y
  ·have:bb=false:=by rw [<-t,h];simp
   rw [if_pos h,if_pos h,this];exact d6
  ·have:bb=true:=by rw [<-t];exact bne_iff_ne.2 (fun e=>h (Int.ofNat_inj.1 e))
   rw [if_neg h,if_neg h,this];exact d6
 rw [hV.1,hV.2];have ak:=Qe hst;clear C hY M hV hoc I r hst;go_enter func78,ntmps78;go_wp2_with fail;refine Calls.mono AL.u ?_;rintro e w1 ⟨rfl,P,O⟩;have M1:=Qe<|HM.u.went P O
 have B1:=Qe<|HM.u.bel O
 have k1:=O.cell hz0 dW;have K:=O.cell hz13 dW;have HF:=Qe<|f.u w1 M1.u.lm.c0 P
 clear P O AL HM f hz0 hz13;go_wp2_with fail;refine Calls.mono HF.u ?_;rintro e w2 ⟨rfl,J,ag⟩;refine kU ?_;intro o B2 k2;have L:=ag.cell K dW;have S:dm (B<=w2.heap.size):=by show _<=_;have:=E.u;have:=o.u.lt;omega
 obtain ⟨T,d,_⟩:=o.u.ex;obtain ⟨X,G,l,R,_⟩:=d.o30;refine lq ?_;intro m x aa H;clear J ag HF M1 B1 k1 K d l R m x;generalize c.u.drop st=D at*;obtain ⟨y,u⟩:=dt D.length;rw [u] at H k;clear u;go_upto_region 5 with fail;go_region_with (first|(go_at_call 112;refine Calls.mono (H.u _ fv) ?_;rintro e wk ⟨a5,c5,rfl,ab,A,rfl⟩;have N:=Qe ab;have Q:=Qe A;clear ab A)|(go_at_call 30;refine Calls.mono (k.u _ a5 c5 N.u Q.u) ?_;rintro e w6 ⟨rfl,aj⟩;have a6:dm (Below w2.heap.size w2 w6):=(by show Below _ _ _;first|exact aj|exact (Below.refl _ _).drew.trans aj|exact (Qo _ _ _).trans aj);clear aj))
 all_goals
  have M3:=Qe<|o.u.below a6.u
  have B3:=Qe<|B2.u.trans (a6.u.mono S.u)
  clear H k o B2;cases bb
  ·go_wp2_with fail
   exact bodyPost_ret (v:=.tuple #[gF 117 z,.nilIface]) (by simp [results,results78,go_sem,gF]) rfl ⟨rfl,rX,rY⟩
  ·go_wp2_with fail
   exact bodyPost_ret (v:=.tuple #[.nilFunc,flt 4]) rW rfl ⟨rfl,rX,rY⟩
end
section
variable {KH : Nat → Option Obj}
attribute [local go_sem ↓] Go.wp_at_zero Go.wp_at_succ
set_option linter.unusedVariables false
theorem Tryz.info_member:(prog.info? 28).map (fun i=>(i.zero,i.size,i.bytes))=some (some (.agg #[.int .i64 0,.int .i64 0,.int .i64 0,.int .i64 0,.slice none 0 0,.slice none 0 0,.slice none 0 0,.int .i64 0]),8,112):=by kernel_rfl
theorem Qf2(W:World)(A:Array Value)(t:TypeId):∀j u,A.toList[j]?=some u->(W.alloc (.cells A t)).cell? ((⟨W.heap.size,0,none⟩:Addr).add j)=some u:=by
 intro j u hu;have e:(W.alloc (.cells A t)).cell? ⟨W.heap.size,j,none⟩=A[j]?:=dF;rw [Addr.add_lit,Nat.zero_add,e];simpa using hu
def upE(C:Nat->Value)(v:Value)(n:Nat):Nat->Value:=VE (VE (VE (VE (VE (VE (VE (VE (VE (VE (VE (VE C 1 v) 2 (.int .i64 0)) 3 (.int .i64 0)) 4 (.int .i64 0)) 5 (.int .i64 0)) 6 (.slice none 0 0)) 7 (.slice none 0 0)) 8 (.slice none 0 0)) 9 (.int .i64 0)) 10 (.int .i64 0)) 12 (.int .u32 0)) 13 (.int .i64 (n:Nat))
def Qli(z B nm n:Nat)(C:Nat->Value)(am:Option Addr)(w:World)(e:Ending)(w':World):Prop:=e=.returned (gF 77 z)/\∃g cp xs',GZ w' z (upE C (.slice (some ⟨g,0,none⟩) (nm+1) cp) n)/\w'.ownsRow B 28 8 (.slice (some ⟨g,0,none⟩) (nm+1) cp) (nm+1) xs'/\(Qt am=some g\/w.heap.size<=g)/\w.heap.size<=w'.heap.size/\w'.os=w.os/\w'.tape=w.tape/\w'.output=w.output/\∀k,k<w.heap.size->k≠z->Qt am≠some k->w'.heap[k]?=w.heap[k]?
theorem Qgv(z q B fl nm cm n cap:Nat)(C:Nat->Value)(am ao:Option Addr)(xs:List Value)(w:World)(hZ:GZ w z C)(h0:C 0=.pointer (some ⟨q,0,none⟩))(hm:GMb C fl)(h1:C 1=.slice am nm cm)(hO:w.ownsRow B 28 8 (.slice am nm cm) nm xs)(hnm:nm<=1000)(hzB:z<B)(hBw:B<=w.heap.size)(hqz:q≠z)(hqB:q<B)(h30:w.cell? ⟨q,30,none⟩=some (.slice ao n cap)):
  Calls prog 163 #[.pointer (some ⟨z,0,none⟩)] w fun e w'=>Qli z B nm n C am w e w':=by
 obtain ⟨i0,hi,af,ak,aq⟩:=info_parts Tryz.info_member;obtain ⟨E,t,r,H,s,I,D,A,J,o,G,L,cc,m2,m3,m4,m5,m6,m7,m8,g⟩:=hm;have k1:=(hZ.c 1 dn).trans (congrArg some h1);have k2:=(hZ.c 2 dn).trans (congrArg some m2);have k3:=(hZ.c 3 dn).trans (congrArg some m3);have k4:=(hZ.c 4 dn).trans (congrArg some m4);have k5:=(hZ.c 5 dn).trans (congrArg some m5);have k6:=(hZ.c 6 dn).trans (congrArg some m6);have T:=(hZ.c 7 dn).trans (congrArg some m7);have a:=(hZ.c 8 dn).trans (congrArg some m8);have k9:=(hZ.c 9 dn).trans (congrArg some g);have al:=hZ.lt;have x:=Qe h0;have y:=World.block_lt_of_cell? w _ h30;have aZ:dm (∀W,Below w.heap.size w W->W.ownsRow B 28 8 (.slice am nm cm) nm xs):=fun W hW=>hO.kept (Qk hW none) rZ
 have V:dm (∀k,Qt am=some k->B<=k):=fun k e=>by
  exact r4
 have bS:dm (∀W:World,∀j u,([.int .i64 (fl:Nat),.int .i64 E,.int .i64 t,.int .i64 r,.slice s A J,.slice I o G,.slice D L cc,.int .i64 H]:List Value)[j]?=some u->(W.alloc (.cells #[.int .i64 (fl:Nat),.int .i64 E,.int .i64 t,.int .i64 r,.slice s A J,.slice I o G,.slice D L cc,.int .i64 H] 28)).cell? ((⟨W.heap.size,0,none⟩:Addr).add j)=some u):=fun W=>Qf2 W #[.int .i64 (fl:Nat),.int .i64 E,.int .i64 t,.int .i64 r,.slice s A J,.slice I o G,.slice D L cc,.int .i64 H] 28
 have a1:dm (∀u∈([.int .i64 (fl:Nat),.int .i64 E,.int .i64 t,.int .i64 r,.slice s A J,.slice I o G,.slice D L cc,.int .i64 H]:List Value),u.oneCell'=true):=r5;have bm:dm (nm+1<=maxLen):=jZ;have bl:dm ((nm+1)*112<=140737488355328):=gQ;have FX:dm (∀W Q:World,Below w.heap.size w W->W.grownBy Q (Value.slice am nm cm).ownBlock->Q.cell? ⟨z,1,none⟩=some (.slice am nm cm)/\Q.frozen? ⟨z,1,none⟩=false/\dm (GZ Q z C/\Q.cell? ⟨q,30,none⟩=some (.slice ao n cap)/\w.heap.size<=Q.heap.size/\Q.os=w.os/\Q.tape=w.tape/\Q.output=w.output/\∀k,k<w.heap.size->k≠z->Qt am≠some k->Q.heap[k]?=w.heap[k]?)):=by
  intro W Q hb O;have he:(Value.slice am nm cm).ownBlock=Qt am:=by cases am<;>rfl
  rw [he] at O;have au:some z≠Qt am:=fun e=>by have:=V.u z e.symm;omega
  have av:some q≠Qt am:=fun e=>by have:=V.u q e.symm;omega
  have Z':=(hZ.below hb).grown O au;refine ⟨(Z'.c 1 dn).trans (congrArg some h1),Z'.f 1,Z',?_,Nat.le_trans hb.size O.size,O.os.trans hb.os,O.tape.trans hb.tape,O.output.trans hb.output,fun k e1 e2 e3=>(O.block k (Nat.lt_of_lt_of_le e1 hb.size) (fun e=>e3 e.symm)).trans (hb.block k e1)⟩;exact O.cell ((hb.cell (p:=⟨q,30,none⟩) y).trans h30) av
 clear hZ h0 h1 m2 m3 m4 m5 m6 m7 m8 g hO h30;go_enter func163,ntmps163;go_upto_region 1 with fail;go_region_law (refine step_append_lies _ rfl (.tmp 7) (.tmp 12) 34 rfl B 28 i0 (.agg #[.int .i64 0,.int .i64 0,.int .i64 0,.int .i64 0,.slice none 0 0,.slice none 0 0,.slice none 0 0,.int .i64 0]) 8 112 underlying34 hi af ak aq rfl dn (.slice am nm cm) nm xs eh (aZ.u _ r6) ⟨w.heap.size,0,none⟩ 1 1 [.int .i64 (fl:Nat),.int .i64 E,.int .i64 t,.int .i64 r,.slice s A J,.slice I o G,.slice D L cc,.int .i64 H] eh rfl (bS.u _) a1.u dn bm.u bl.u du _ rfl ?_;intro g6 d w6 l b F aa;obtain ⟨Z,ai,ad⟩:=FX.u _ w6 r6 b)
 all_goals
  obtain ⟨Z6,q6,s6,o6,t6,u6,b6⟩:=ad.u;have ax:B<=g6:=by
   rcases l.2 with ⟨U,_⟩|⟨g',K,M,U,h6,_⟩
   ·simp at U
   ·simp only [Value.slice.injEq,Option.some.injEq,Addr.mk.injEq] at U
    omega
  have gs:=Qf w6 ⟨z,1,none⟩ (.slice (some ⟨g6,0,none⟩) (nm+1) d);have O7:=Qe<|l.kept gs (.inr gL)
  have i:=Z6.set 1 (.slice (some ⟨g6,0,none⟩) (nm+1) d);have q7:=gs.cell q6 (by simp;exact hqz);have s7:=Nat.le_trans s6 gs.size;have B7:dm (∀k,k<w.heap.size->k≠z->Qt am≠some k->(w6.setCell ⟨z,1,none⟩ (.slice (some ⟨g6,0,none⟩) (nm+1) d)).heap[k]?=w.heap[k]?):=fun k e1 e2 e3=>(gs.block k (Nat.lt_of_lt_of_le e1 s6) (by simp;exact e2)).trans (b6 k e1 e2 e3)
  have R:=Qe<|And.intro (gs.os.trans o6) (And.intro (gs.tape.trans t6) (gs.output.trans u6))
  have AT:dm (Qt am=some g6\/w.heap.size<=g6):=by
   rcases F with h|h
   ·left;rw [<-h];cases am<;>rfl
   ·right;rw [h];simp
  obtain ⟨W7,P⟩:=dt (w6.setCell ⟨z,1,none⟩ (.slice (some ⟨g6,0,none⟩) (nm+1) d));rw [P] at O7 i q7 s7 B7 R ⊢;clear P Z6 q6 s6 o6 t6 u6 b6 l b F aa Z ai ad gs FX aZ bS a1 bm bl k1 k2 k3 k4 k5 k6 T a k9;have ab:=Qe i;have m:=i.c 2 dn;have j3:=i.c 3 dn;have j4:=i.c 4 dn;have j5:=i.c 5 dn;have j6:=i.c 6 dn;have j7:=i.c 7 dn;have j8:=i.c 8 dn;have j9:=i.c 9 dn;have aj:=i.c 10 dn;have ar:=i.c 12 dn;have S:=i.f 2;have l3:=i.f 3;have l4:=i.f 4;have l5:=i.f 5;have l6:=i.f 6;have l7:=i.f 7;have l8:=i.f 8;have l9:=i.f 9;have ah:=i.f 10;have aw:=i.f 12;clear i;go_upto_region 3 with fail;have Y:=((((((((((ab.u.set 2 (.int .i64 0)).set 3 (.int .i64 0)).set 4 (.int .i64 0)).set 5 (.int .i64 0)).set 6 (.slice none 0 0)).set 7 (.slice none 0 0)).set 8 (.slice none 0 0)).set 9 (.int .i64 0)).set 10 (.int .i64 0)).set 12 (.int .u32 0));have G8:=(Qj ((Qj ((Qj ((Qj ((Qj ((Qj ((Qj ((Qj ((Qj ((Qj (World.grownBy.refl W7 (some z)) (Qf (W7) ⟨z,2,none⟩ (.int .i64 0)))) (Qf ((W7.setCell ⟨z,2,none⟩ (.int .i64 0))) ⟨z,3,none⟩ (.int .i64 0)))) (Qf (((W7.setCell ⟨z,2,none⟩ (.int .i64 0)).setCell ⟨z,3,none⟩ (.int .i64 0))) ⟨z,4,none⟩ (.int .i64 0)))) (Qf ((((W7.setCell ⟨z,2,none⟩ (.int .i64 0)).setCell ⟨z,3,none⟩ (.int .i64 0)).setCell ⟨z,4,none⟩ (.int .i64 0))) ⟨z,5,none⟩ (.int .i64 0)))) (Qf (((((W7.setCell ⟨z,2,none⟩ (.int .i64 0)).setCell ⟨z,3,none⟩ (.int .i64 0)).setCell ⟨z,4,none⟩ (.int .i64 0)).setCell ⟨z,5,none⟩ (.int .i64 0))) ⟨z,6,none⟩ (.slice none 0 0)))) (Qf ((((((W7.setCell ⟨z,2,none⟩ (.int .i64 0)).setCell ⟨z,3,none⟩ (.int .i64 0)).setCell ⟨z,4,none⟩ (.int .i64 0)).setCell ⟨z,5,none⟩ (.int .i64 0)).setCell ⟨z,6,none⟩ (.slice none 0 0))) ⟨z,7,none⟩ (.slice none 0 0)))) (Qf (((((((W7.setCell ⟨z,2,none⟩ (.int .i64 0)).setCell ⟨z,3,none⟩ (.int .i64 0)).setCell ⟨z,4,none⟩ (.int .i64 0)).setCell ⟨z,5,none⟩ (.int .i64 0)).setCell ⟨z,6,none⟩ (.slice none 0 0)).setCell ⟨z,7,none⟩ (.slice none 0 0))) ⟨z,8,none⟩ (.slice none 0 0)))) (Qf ((((((((W7.setCell ⟨z,2,none⟩ (.int .i64 0)).setCell ⟨z,3,none⟩ (.int .i64 0)).setCell ⟨z,4,none⟩ (.int .i64 0)).setCell ⟨z,5,none⟩ (.int .i64 0)).setCell ⟨z,6,none⟩ (.slice none 0 0)).setCell ⟨z,7,none⟩ (.slice none 0 0)).setCell ⟨z,8,none⟩ (.slice none 0 0))) ⟨z,9,none⟩ (.int .i64 0)))) (Qf (((((((((W7.setCell ⟨z,2,none⟩ (.int .i64 0)).setCell ⟨z,3,none⟩ (.int .i64 0)).setCell ⟨z,4,none⟩ (.int .i64 0)).setCell ⟨z,5,none⟩ (.int .i64 0)).setCell ⟨z,6,none⟩ (.slice none 0 0)).setCell ⟨z,7,none⟩ (.slice none 0 0)).setCell ⟨z,8,none⟩ (.slice none 0 0)).setCell ⟨z,9,none⟩ (.int .i64 0))) ⟨z,10,none⟩ (.int .i64 0)))) (Qf ((((((((((W7.setCell ⟨z,2,none⟩ (.int .i64 0)).setCell ⟨z,3,none⟩ (.int .i64 0)).setCell ⟨z,4,none⟩ (.int .i64 0)).setCell ⟨z,5,none⟩ (.int .i64 0)).setCell ⟨z,6,none⟩ (.slice none 0 0)).setCell ⟨z,7,none⟩ (.slice none 0 0)).setCell ⟨z,8,none⟩ (.slice none 0 0)).setCell ⟨z,9,none⟩ (.int .i64 0)).setCell ⟨z,10,none⟩ (.int .i64 0))) ⟨z,12,none⟩ (.int .u32 0)));obtain ⟨W8,ag⟩:=dt (((((((((((W7.setCell ⟨z,2,none⟩ (.int .i64 0)).setCell ⟨z,3,none⟩ (.int .i64 0)).setCell ⟨z,4,none⟩ (.int .i64 0)).setCell ⟨z,5,none⟩ (.int .i64 0)).setCell ⟨z,6,none⟩ (.slice none 0 0)).setCell ⟨z,7,none⟩ (.slice none 0 0)).setCell ⟨z,8,none⟩ (.slice none 0 0)).setCell ⟨z,9,none⟩ (.int .i64 0)).setCell ⟨z,10,none⟩ (.int .i64 0)).setCell ⟨z,12,none⟩ (.int .u32 0)));rw [ag] at Y G8 ⊢;have ay:W8.cell? ⟨z,0,none⟩=some (.pointer (some ⟨q,0,none⟩)):=(Y.c 0 dn).trans (congrArg some (by simp [VE];exact x.u));have q8:=G8.cell q7 (by simp;exact hqz);have az:=Y.c 13 dn;have a0:=Y.f 13;have g9:=Qf W8 ⟨z,13,none⟩ (.int .i64 (n:Nat));have N:=Qj G8 g9;have Z9:=Qe<|Y.set 13 (.int .i64 (n:Nat))
  have X:=Qe<|O7.u.kept N (.inr gL)
  have S9:dm (w.heap.size<=(W8.setCell ⟨z,13,none⟩ (.int .i64 (n:Nat))).heap.size):=Nat.le_trans s7 N.size;have T9:=Qe<|And.intro (N.os.trans R.u.1) (And.intro (N.tape.trans R.u.2.1) (N.output.trans R.u.2.2))
  have B9:dm (∀k,k<w.heap.size->k≠z->Qt am≠some k->(W8.setCell ⟨z,13,none⟩ (.int .i64 (n:Nat))).heap[k]?=w.heap[k]?):=fun k e1 e2 e3=>(N.block k (Nat.lt_of_lt_of_le e1 s7) (by simp;exact e2)).trans (B7.u k e1 e2 e3)
  clear ag Y G8 g9 N O7 B7 R ab m j3 j4 j5 j6 j7 j8 j9 aj ar S l3 l4 l5 l6 l7 l8 l9 ah aw q7;go_wp2_with fail;exact bodyPost_ret (v:=gF 77 z) (by simp [results,results163,go_sem,gF]) rfl ⟨rfl,g6,d,_,Z9.u,X.u,AT.u,S9.u,T9.u.1,T9.u.2.1,T9.u.2.2,B9.u⟩
end
section
variable {KH : Nat → Option Obj}
attribute [local go_sem ↓] Go.wp_at_zero Go.wp_at_succ
set_option linter.unusedVariables false
theorem QnX(z q p hB g s B:Nat)(zs:List Int)(aft:Value)(c:IC)(w:World)(hM:Q2 KH q p hB g s B zs aft w c)(hz0:w.cell? ⟨z,0,none⟩=some (.pointer (some ⟨q,0,none⟩)))(hzl:zs.length<=65536)(hn:¬c.lc.i+32<=8*zs.length):
  Calls prog 117 #[.pointer (some ⟨z,0,none⟩)] w fun e w'=>e=.returned (.tuple #[.nilFunc,flt 2])/\Q2 KH q p hB g s B zs aft w' c/\Below B w w':=by
 have y:=hM.lt;have HM:=Qe hM;have HF:=Qe<|Vi q p hB zs c.lc.i 32 w hM.lm.c0 hM.lm.rd hzl dn hn
 have E:=Qe hM.bs;unfold flt at HF;clear hM;go_enter func117,ntmps117;go_wp2_with fail;refine Calls.mono HF.u ?_;rintro e w2 ⟨rfl,hb⟩;have o:=Qe<|HM.u.below hb
 have B2:=Qe<|hb.mono (show B<=w.heap.size from eP)
 clear hb HF;go_wp2_with fail;exact bodyPost_ret (v:=.tuple #[.nilFunc,flt 2]) r7 rfl ⟨rfl,o.u,B2.u⟩
theorem QlD(z q p hB g s B st:Nat)(zs:List Int)(aft:Value)(c:IC)(w:World)(hM:Q2 KH q p hB g s B zs aft w c)(hz0:w.cell? ⟨z,0,none⟩=some (.pointer (some ⟨q,0,none⟩)))(hz13:w.cell? ⟨z,13,none⟩=some (.int .i64 (st:Nat)))(hzp:z≠p)(hz:Qh zs)(hzl:zs.length<=65536)(hn:c.lc.i+32<=8*zs.length)(hst:st<=c.u.length)(hol:c.u.length<=65536)(hF:field (bnum zs) c.lc.i 32≠c.u.length-st):
  Calls prog 117 #[.pointer (some ⟨z,0,none⟩)] w fun e w'=>e=.returned (.tuple #[.nilFunc,flt 4])/\Q2 KH q p hB g s B zs aft w' (Vl c (c.lc.i+32))/\Below B w w':=by
 have HM:=Qe hM;have E:=Qe hM.bs;have HF:=Qe<|Q7 q p hB zs c.lc.i 32 w hM.lm.c0 hM.lm.rd hz hzl dn hn
 clear hM;obtain ⟨F,C⟩:=dt (field (bnum zs) c.lc.i 32);obtain ⟨y,u⟩:=dt ((c.u.drop st).length);have hD:c.u.length-st=y:=by rw [<-u,List.length_drop]
 rw [C] at HF hF;rw [hD] at hF;have t:((F:Int) != (y:Int))=true:=bne_iff_ne.2 (fun e=>hF (Int.ofNat_inj.1 e));have ak:=Qe hst;have O:=Qe u;clear C hD hF hst u;go_enter func117,ntmps117;go_wp2_with fail;refine Calls.mono HF.u ?_;rintro e w2 ⟨rfl,J,ag⟩;have o:=Qe<|HM.u.went J ag
 have B2:=Qe<|HM.u.bel ag
 have k2:=ag.cell hz0 dW;have L:=ag.cell hz13 dW;obtain ⟨T,d,_⟩:=o.u.ex;obtain ⟨X,G,l,R,_⟩:=d.o30;refine lq ?_;intro m x aa H;rw [O.u] at H;clear J ag HF d l R m x hz0 hz13;generalize c.u.drop st=D at*;go_upto_region 4 with fail;go_region_with (go_at_call 112;refine Calls.mono (H.u _ fv) ?_;rintro e wk ⟨a5,c5,rfl,ab,A,rfl⟩;clear ab)
 all_goals
  clear H;go_wp2_with fail;exact bodyPost_ret (v:=.tuple #[.nilFunc,flt 4]) r7 rfl ⟨rfl,by first|exact o.u|exact o.u.below (Below.refl _ _).drew|exact o.u.below (Qo _ _ _),by first|exact B2.u|exact B2.u.trans (Below.refl _ _).drew|exact B2.u.trans (Qo _ _ _)⟩
def Qo5(z p hB Bm nm n F i:Nat)(zs:List Int)(C:Nat->Value)(am:Option Addr)(w:World)(e:Ending)(w':World):Prop:=
 ∃v w3,e=.returned (.tuple #[v,.nilIface])/\Rd w3 p hB zs i/\w3.os=w.os/\w3.tape=w.tape/\w3.output=w.output/\w.heap.size<=w3.heap.size/\(∀k,k<w.heap.size->k≠p->k≠z->w3.heap[k]?=w.heap[k]?)/\Qli z Bm nm n (VE C 9 (.int .i64 (F:Nat))) am w3 (.returned v) w'
theorem GMb.nine{C:Nat->Value}{fl:Nat}(h:GMb C fl)(x:Int):GMb (VE C 9 (.int .i64 x)) fl:=by
 obtain ⟨E,t,r,H,s,I,D,A,J,o,G,L,cc,m2,m3,m4,m5,m6,m7,m8,g⟩:=h;exact ⟨E,t,r,x,s,I,D,A,J,o,G,L,cc,by rw [Ql C _ dn];exact m2,by rw [Ql C _ dn];exact m3,by rw [Ql C _ dn];exact m4,by rw [Ql C _ dn];exact m5,by rw [Ql C _ dn];exact m6,by rw [Ql C _ dn];exact m7,by rw [Ql C _ dn];exact m8,Qaa C 9 _⟩
theorem Qot(z q p hB g s B Bm st fl nm cm:Nat)(zs:List Int)(aft:Value)(c:IC)(C:Nat->Value)(am:Option Addr)(xs:List Value)(w:World)(hM:Q2 KH q p hB g s B zs aft w c)(hZ:GZ w z C)(h0:C 0=.pointer (some ⟨q,0,none⟩))(hm:GMb C fl)(h1:C 1=.slice am nm cm)(hO:w.ownsRow Bm 28 8 (.slice am nm cm) nm xs)(hnm:nm<=1000)(hzB:z<Bm)(hqB:q<Bm)(hpB:p<Bm)(hbB:hB<Bm)(hBw:Bm<=w.heap.size)(h13:C 13=.int .i64 (st:Nat))(hzp:z≠p)(hzq:z≠q)(hbz:hB≠z)(hz:Qh zs)(hzl:zs.length<=65536)(hn:c.lc.i+32<=8*zs.length)(hst:st<=c.u.length)(hol:c.u.length<=65536)(hF:field (bnum zs) c.lc.i 32=c.u.length-st):
  Calls prog 117 #[.pointer (some ⟨z,0,none⟩)] w fun e w'=>Qo5 z p hB Bm nm c.u.length (c.u.length-st) (c.lc.i+32) zs C am w e w':=by
 have af:=(hZ.c 0 dn).trans (congrArg some h0);have h:=(hZ.c 13 dn).trans (congrArg some h13);have HM:=Qe hM;have HF:=Qe<|Q7 q p hB zs c.lc.i 32 w hM.lm.c0 hM.lm.rd hz hzl dn hn
 obtain ⟨y,u⟩:=dt ((c.u.drop st).length);have hD:c.u.length-st=y:=by rw [<-u,List.length_drop]
 rw [hF,hD] at HF;rw [hD];have ak:=Qe hst;have O:=Qe u;have b:=Qe<|And.intro hZ (And.intro h0 (And.intro hm (And.intro h1 (And.intro h13 hO))))
 have Y:∀k,Qt am=some k->Bm<=k:=fun k e=>by
  exact r4
 have V:=Qe Y;clear hM hF hD hst u hZ h0 hm h1 h13 hO Y;go_enter func117,ntmps117;go_wp2_with fail;refine Calls.mono HF.u ?_;rintro e w2 ⟨rfl,J,ag⟩;have o:=Qe<|HM.u.went J ag
 have R2:=Qe J;have N:=Qe ag;have k2:=ag.cell af dW;have L:=ag.cell h dW;obtain ⟨T,d,_⟩:=o.u.ex;obtain ⟨X,G,l,R,_⟩:=d.o30;refine lq ?_;intro m x aa H;rw [O.u] at H;obtain ⟨iZ,i0,im,i1,S,iO⟩:=b.u;have Z2:=iZ.grown ag dW;have O2:=iO.kept ag (by
  cases am with
  | none=>left;rfl
  | some ad=>
   right;intro e;have U:Qt (some ad)=some p:=by simpa [Value.ownBlock,Qt] using e
   have:=V.u p U;omega)
 have j:=ag.size;have a:=Qe (fun W (hW:Below w2.heap.size w2 W)=>Z2.below hW);have EM:=Qe (fun W (hW:Below w2.heap.size w2 W)=>Qgv z q Bm fl nm cm c.u.length G (VE C 9 (.int .i64 (y:Nat))) am X xs (W.setCell ⟨z,9,none⟩ (.int .i64 (y:Nat))) ((Z2.below hW).set 9 (.int .i64 (y:Nat))) ((Ql C _ dn).trans i0) (im.nine (y:Nat)) ((Ql C _ dn).trans i1)
  ((O2.kept (Qk hW none) rZ).kept (Qf W ⟨z,9,none⟩ (.int .i64 (y:Nat))) (by
   cases am with
   | none=>left;rfl
   | some ad=>
    right;intro e;have U:Qt (some ad)=some z:=by simpa [Value.ownBlock,Qt] using e
    have:=V.u z U;omega)) hnm hzB (Nat.le_trans hBw (Nat.le_trans j (Nat.le_trans hW.size (Qf W ⟨z,9,none⟩ (.int .i64 (y:Nat))).size))) (fun e=>hzq e.symm) hqB
  ((Qf W ⟨z,9,none⟩ (.int .i64 (y:Nat))).cell ((hW.cell (p:=⟨q,30,none⟩) aa).trans m) (by simpa using fun e=>hzq e.symm)))
 have az:dm (∀W,Below w2.heap.size w2 W->Rd (W.setCell ⟨z,9,none⟩ (.int .i64 (y:Nat))) p hB zs (c.lc.i+32)/\(W.setCell ⟨z,9,none⟩ (.int .i64 (y:Nat))).os=w.os/\(W.setCell ⟨z,9,none⟩ (.int .i64 (y:Nat))).tape=w.tape/\(W.setCell ⟨z,9,none⟩ (.int .i64 (y:Nat))).output=w.output/\w.heap.size<=(W.setCell ⟨z,9,none⟩ (.int .i64 (y:Nat))).heap.size/\(∀k,k<w.heap.size->k≠p->k≠z->(W.setCell ⟨z,9,none⟩ (.int .i64 (y:Nat))).heap[k]?=w.heap[k]?)):=by
  intro W hW;have gs:=Qf W ⟨z,9,none⟩ (.int .i64 (y:Nat));refine ⟨(R2.u.below hW).grown gs (by simpa using fun e=>hzp e.symm) (by simpa using hbz),gs.os.trans (hW.os.trans N.u.os),gs.tape.trans (hW.tape.trans N.u.tape),gs.output.trans (hW.output.trans N.u.output),Nat.le_trans j (Nat.le_trans hW.size gs.size),fun k e1 e2 e3=>?_⟩;rw [gs.block k (Nat.lt_of_lt_of_le e1 (Nat.le_trans j hW.size)) (by simpa using e3),hW.block k (Nat.lt_of_lt_of_le e1 j)];exact N.u.block k e1 (by simpa using e2)
 clear J ag HF d l R m x af h Z2 O2 iZ i0 im i1 S iO R2 N o;generalize c.u.drop st=D at*;obtain ⟨nO,t⟩:=dt c.u.length;have a7:=Qe t;rw [t] at EM;clear t;go_upto_region 4 with fail;go_region_with (go_at_call 112;refine Calls.mono (H.u _ fv) ?_;rintro e wk ⟨a5,c5,rfl,ab,A,rfl⟩;clear ab)
 all_goals
  clear H;go_upto_region 6 with fail;obtain ⟨W3,E⟩:∃W,W=w2.drew:=⟨_,rfl⟩;rw [<-E];have r:Below w2.heap.size w2 W3:=by rw [E];exact (Below.refl _ _).drew
  have I:=a.u W3 r;have j9:=I.c 9 dn;have l9:=I.f 9;have Q:=Qe<|EM.u W3 r
  have P:=Qe<|az.u W3 r
  clear E I r EM az a;go_wp2_with fail;refine Calls.mono Q.u ?_;rintro e w5 hE;obtain ⟨v5,Z⟩:∃v,e=.returned v:=⟨_,hE.1⟩;subst Z;have HE:=Qe hE;clear hE Q;go_wp2_with fail;obtain ⟨F,y2,y3,y4,y5,y6⟩:=P.u;exact bodyPost_ret (v:=.tuple #[v5,.nilIface]) (by simp [results,results117,go_sem]) rfl ⟨v5,_,rfl,F,y2,y3,y4,y5,y6,by rw [a7.u];exact HE.u⟩
end
end Go.Proofs.YtgginbpmebgkcaaGreatDoor
namespace Go.Proofs.YtgginbpmebgkcaaGreatDoor
open Go.RowKit Go.Proofs.Tryz
attribute [local go_sem ↓] Go.wp_at_zero Go.wp_at_succ
set_option linter.unusedVariables false
set_option maxRecDepth 100000
set_option maxHeartbeats 25600000
theorem Qj9{KH:Nat->Option Obj}(q p hB g s s' B:Nat)(zs:List Int)(aft:Value)(c:IC)(w:World)(h:Q2 KH q p hB g s B zs aft w c)(h7:7<=c.st)(hs0:0<s')(hs1:s'<=32768):
  Calls prog 109 #[.pointer (some ⟨q,0,none⟩),.int .i64 (s':Nat),.slice none 0 0] w fun e w'=>∃g',e=.returned (Qay q aft 7)/\Q2 KH q p hB g' s' B zs aft w' {c with st:=7,t:=[]}/\w.grownBy w' (some q):=by
 have k:=Qe<|Qeo s' [] none 0 w hs0 hs1 (Q1.nil _ _) dr dn (fun ad e=>dx)
 have hl:lastN s' ([]:List Int)=[]:=by simp [lastN]
 rw [hl] at k;have y:q<w.heap.size:=h.lt;obtain ⟨T,P,_⟩:=h.ex;have d:=P.c29;have f:=h.lm.free 29;have HM:=Qe h;clear h P;go_enter func109,ntmps109;go_wp2_with fail;refine Calls.mono k.u ?_;rintro e w1 ⟨g',rfl,H,I,b,j⟩;have b1:=j.mono H;have V:QaH w1 g' s' []:=b;have u:=Qe<|Qk b1 (some q)
 have r:w.heap.size<=w1.heap.size:=b1.size;have i:=(b1.cell (p:=⟨q,29,none⟩) y).trans d;have l:w1.frozen? ⟨q,29,none⟩=false:=(World.frozen?_of_block (w:=w) (a:=⟨q,29,none⟩) (b1.block q y)).trans f;have o:=Qe<|HM.u.again h7 b1 ⟨hs0,hs1⟩ H I V
 have g2:=Qf w1 ⟨q,29,none⟩ (.pointer (some ⟨g',0,none⟩));have N:=Qe<|Qj u.u g2
 clear b j b1 k HM V u g2 d f;go_wp2_with fail;go_ret;exact ⟨g',rfl,o.u,N.u⟩
def gC0(q:Nat):Nat->Value:=fun k=>if k=0 then .pointer (some ⟨q,0,none⟩) else if k=1\/k=6\/k=7\/k=8 then .slice none 0 0 else if k=12 then .int .u32 0 else .int .i64 0
theorem Qeb(w:World):
  Calls prog 37 #[] w fun e w'=>∃z q p a1 c1,e=.returned (.pointer (some ⟨z,0,none⟩))/\GZ w' z (gC0 q)/\Qak w' q p (gF 77 z) (gF 78 z)/\Src w' p (.slice a1 0 c1) 0 0/\Qi 5 w.heap.size w' a1 c1 []/\w.heap.size<=p/\p<q/\q<z/\z<w'.heap.size/\Qt a1≠some p/\Qt a1≠some q/\Qt a1≠some z/\Below w.heap.size w w':=by
 have j:=Qe<|Qco w
 go_enter func37,ntmps37;go_wp2_with fail;refine Calls.mono j.u ?_;rintro e w1 ⟨q,p,a1,c1,rfl,hN,hS,hO,N,D,hq,V,a,hb⟩;have o:Below w1.heap.size w1 (w1.alloc (.cells #[.pointer (some ⟨q,0,none⟩),.slice none 0 0,.int .i64 0,.int .i64 0,.int .i64 0,.int .i64 0,.slice none 0 0,.slice none 0 0,.slice none 0 0,.int .i64 0,.int .i64 0,.int .i64 0,.int .u32 0,.int .i64 0] 83)):=(Below.refl _ _).alloc (Nat.le_refl _) _;have N1:=Qe<|hN.z.same (o.block q hq)
 have S1:=Qe<|hS.grown (Qk o none) dr
 have O1:=Qe<|Qi.below hO o
 have B1:=Qe<|hb.trans (o.mono hb.size)
 have HC:dm (∀i:Nat,(w1.alloc (.cells #[.pointer (some ⟨q,0,none⟩),.slice none 0 0,.int .i64 0,.int .i64 0,.int .i64 0,.int .i64 0,.slice none 0 0,.slice none 0 0,.slice none 0 0,.int .i64 0,.int .i64 0,.int .i64 0,.int .u32 0,.int .i64 0] 83)).cell? ⟨w1.heap.size,i,none⟩=(#[.pointer (some ⟨q,0,none⟩),.slice none 0 0,.int .i64 0,.int .i64 0,.int .i64 0,.int .i64 0,.slice none 0 0,.slice none 0 0,.slice none 0 0,.int .i64 0,.int .i64 0,.int .i64 0,.int .u32 0,.int .i64 0]:Array Value)[i]?):=fun i=>dF
 have ZC:dm (GZ (w1.alloc (.cells #[.pointer (some ⟨q,0,none⟩),.slice none 0 0,.int .i64 0,.int .i64 0,.int .i64 0,.int .i64 0,.slice none 0 0,.slice none 0 0,.slice none 0 0,.int .i64 0,.int .i64 0,.int .i64 0,.int .u32 0,.int .i64 0] 83)) w1.heap.size (gC0 q)):=by
  refine ⟨fun k hk=>?_,fun k=>dF⟩;rw [HC.u k];have h3:k=0\/k=1\/k=2\/k=3\/k=4\/k=5\/k=6\/k=7\/k=8\/k=9\/k=10\/k=11\/k=12\/k=13:=dk;rcases h3 with rfl|rfl|rfl|rfl|rfl|rfl|rfl|rfl|rfl|rfl|rfl|rfl|rfl|rfl<;>rfl
 have zz:(w1.alloc (.cells #[.pointer (some ⟨q,0,none⟩),.slice none 0 0,.int .i64 0,.int .i64 0,.int .i64 0,.int .i64 0,.slice none 0 0,.slice none 0 0,.slice none 0 0,.int .i64 0,.int .i64 0,.int .i64 0,.int .u32 0,.int .i64 0] 83)).heap.size=w1.heap.size+1:=dr;refine qy ?_;intro HL b a0;clear hN hS hO hb o j V a HC;go_upto_region 2 with fail;obtain ⟨z,r⟩:=dt w1.heap.size;rw [r] at ZC zz HL hq a0 ⊢;generalize w1.alloc (.cells #[.pointer (some ⟨q,0,none⟩),.slice none 0 0,.int .i64 0,.int .i64 0,.int .i64 0,.int .i64 0,.slice none 0 0,.slice none 0 0,.slice none 0 0,.int .i64 0,.int .i64 0,.int .i64 0,.int .u32 0,.int .i64 0] 83)=W1 at*;clear r;have ab:q<z:=hq;have h:=Qai W1 ⟨q,1,none⟩ (Fn.func 77) #[.pointer (some ⟨z,0,none⟩)] #[] _ N1.u.c1 (N1.u.f 1);have N2:=Qe<|N1.u.set1 (gF 77 z)
 have g1:=Qf W1 ⟨q,1,none⟩ (gF 77 z);have Z2:=Qe<|ZC.u.same (g1.block z dk du)
 have d:=Qai (W1.setCell ⟨q,1,none⟩ (gF 77 z)) ⟨q,38,none⟩ (Fn.func 78) #[.pointer (some ⟨z,0,none⟩)] #[] _ N2.u.c38 (N2.u.f 38);have N3:=Qe<|N2.u.set38 (gF 78 z)
 have g2:=Qf (W1.setCell ⟨q,1,none⟩ (gF 77 z)) ⟨q,38,none⟩ (gF 78 z);have L:W1.heap.size<=(W1.setCell ⟨q,1,none⟩ (gF 77 z)).heap.size:=g1.size;refine qA ?_;intro I S3 K B3;have Z:z<((W1.setCell ⟨q,1,none⟩ (gF 77 z)).setCell ⟨q,38,none⟩ (gF 78 z)).heap.size:=by have:=g2.size;omega
 have k0:W1.cell? ⟨z,0,none⟩=some (.pointer (some ⟨q,0,none⟩)):=ZC.u.c 0 dn;have g:(W1.setCell ⟨q,1,none⟩ (gF 77 z)).cell? ⟨z,0,none⟩=some (.pointer (some ⟨q,0,none⟩)):=Z2.u.c 0 dn;unfold gF at N2 Z2 d g N3 I S3 K B3 Z L;exact qB
end Go.Proofs.YtgginbpmebgkcaaGreatDoor
