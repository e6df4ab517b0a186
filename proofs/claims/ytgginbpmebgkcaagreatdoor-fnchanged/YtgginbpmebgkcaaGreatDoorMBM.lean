import Derived.Test.YtgginbpmebgkcaaGreatDoorMAG
import Derived.Test.YtgginbpmebgkcaaGreatDoorMBD
import Derived.Test.YtgginbpmebgkcaaGreatDoorMBE
import Derived.Test.YtgginbpmebgkcaaGreatDoorMBG
import Derived.Test.YtgginbpmebgkcaaGreatDoorMBL
namespace Go.Proofs.YtgginbpmebgkcaaGreatDoor
open Go.RowKit Go.Proofs.Tryz
attribute [local go_sem ↓] Go.wp_at_zero Go.wp_at_succ
set_option linter.unusedVariables false
set_option maxRecDepth 100000
set_option maxHeartbeats 25600000
def QI(v n:Nat):List Int:=(List.range n).map (fun i=>((v/2^(8*i)%256:Nat):Int))
theorem QN(v n:Nat):(QI v n).length=n:=by simp [QI]
theorem Qed(v n:Nat):QI v (n+1)=QI v n++[((v/2^(8*n)%256:Nat):Int)]:=by simp [QI,List.range_succ]
theorem Qbw(v n:Nat):Qh (QI v n):=by
 intro z r;simp only [QI,List.mem_map,List.mem_range] at r;obtain ⟨i,_,rfl⟩:=r;omega
theorem Qp{a b c:World}{r r2:Option Nat}(h:a.grownBy b r)(k:b.grownBy c r2)(hr:∀g,r2=some g->r=some g\/a.heap.size<=g):a.grownBy c r:=by
 refine ⟨k.os.trans h.os,k.tape.trans h.tape,k.output.trans h.output,Nat.le_trans h.size k.size,fun j hj hne=>?_⟩;rw [k.block j (Nat.lt_of_lt_of_le hj h.size) ?_,h.block j hj hne];intro e;rcases hr j e.symm with J|J
 ·exact hne J.symm
 ·omega
theorem QaQ(B:Nat)(ao:Option Addr)(cap V n:Nat)(L:List Int)(w:World)(ho:Qi 5 B w ao cap L)(hB:B<=w.heap.size)(hn:n<=4)(hV:V<4294967296)(hl:L.length<=1000000):
  Calls prog 29 #[.slice ao L.length cap,.int .i64 (V:Nat),.int .i64 (n:Nat)] w fun e w'=>∃ao' cap',e=.returned (.slice ao' (L++QI V n).length cap')/\Qi 5 B w' ao' cap' (L++QI V n)/\w.grownBy w' (Qt ao)/\Below B w w'/\∀g,Qt ao'=some g->Qt ao=some g\/w.heap.size<=g:=by
 refine ei ?_;intro i0 hi af ak aq;have HO:=Qe ho;clear ho;go_enter func29,ntmps29;go_upto_region 2 with fail;go_loopw [0,7,9] (fun v _ i wr=>∃(k:Nat) (ao':Option Addr) (cap':Nat) (Z:List Int),k<=n/\i=.int .i64 k/\v=.slice ao' Z.length cap'/\Z.length<=1000100/\dm (Z=L++QI V k)/\dm (Qi 5 B wr ao' cap' Z)/\dm (w.grownBy wr (Qt ao))/\dm (Below B w wr)/\dm (∀g,Qt ao'=some g->Qt ao=some g\/w.heap.size<=g)) (fun _ _ i _=>n-(intOf i).toNat)
 case atStart=>exact ⟨0,ao,cap,L,Nat.zero_le _,rfl,rfl,dk,by show _=_;simp [QI],HO,World.grownBy.refl _ _,Below.refl _ _,(fun g e=>.inl e)⟩
 case round=>
  clear HO;obtain ⟨k,ao',cap',Z,hk,rfl,rfl,a2,HZ,HO,HG,HB,HF⟩:=hrel;by_cases ab:k<n
  ·obtain ⟨K,hK⟩:=dt (8*k)
   have c:8*(k:Int)=(K:Int):=dk;have a:K<=24:=dk;obtain ⟨y,hy⟩:=dt (V/2^K);obtain ⟨b,hb⟩:=dt (y%256);have j:(V:Int)/2^K=(y:Int):=by
    rw [show ((2:Int)^K)=((2^K:Nat):Int) from (Int.natCast_pow 2 K).symm,<-hy];rfl
   have al:IntKind.u8.wrap (y:Int)=(b:Int):=dV;have f:dm (Z++[(b:Int)]=L++QI V (k+1)):=by
    show _=_;rw [HZ.u,Qed,hK,hy,hb,List.append_assoc]
   have ah:=Qe (fun A t=>HO.u.below ((Below.refl _ _).alloc (Nat.le_refl _) (.cells A t)));have C:B<=wr.heap.size:=Nat.le_trans hB HB.u.size;have m:=Qe (fun A t=>HB.u.trans (((Below.refl _ _).alloc (Nat.le_refl _) (.cells A t)).mono C));have av:dm (Z.length=L.length+k):=by show _=_;rw [HZ.u,List.length_append,QN]
   clear hb hy hK;go_wp2_with (at_builtin;refine Qm _ rfl _ _ 22 rfl B 5 i0 (.int .u8 0) 1 underlying22 hi af ak aq rfl (.slice ao' Z.length cap') Z.length (Z.map (Value.int .u8)) rfl (ah.u _ _) (some ⟨wr.heap.size,0,none⟩) 1 [(b:Int)] rfl (Qbu wr b 5) (fun e=>dx) dK du du ?_)
   intro v' w2 R Q aa;have H:w2.ownsRow B 5 1 v' (Z.length+1) ((Z++[(b:Int)]).map (Value.int .u8)):=eU;obtain ⟨a3,ar,rfl,S⟩:=Qi.of H;rw [QA] at Q;rw [QA,QA] at aa;have d:=Qe<|(m.u _ _).grown Q du (fun q e=>HO.u.base q e)
   have l:w.heap.size<=wr.heap.size:=HG.u.size;have G:=Qe<|Qp (Qp HG.u (World.grownBy_alloc wr (.cells #[.int .u8 (b:Int)] 5) none) (fun g e=>dx)) Q (fun g e=>HF.u g e)
   have aB:dm (∀g,Qt a3=some g->Qt ao=some g\/w.heap.size<=g):=fun g e=>by
    rcases aa with h|h
    ·exact HF.u g (h▸e)
    ·rw [h] at e
     simp at e;exact .inr dk
   have an:=Qe S;have O:(Z++[(b:Int)]).length<=1000100:=qx;generalize Z++[(b:Int)]=Z2 at*;clear R H Q aa S ah m;go_wp2_with fail;exact ⟨⟨k+1,a3,ar,Z2,dk,dw,rfl,O,f,an,G,d,aB⟩,dM⟩
  ·have e:k=n:=dk
   subst e;have E:=HZ.u;subst E;go_wp2_with fail;go_ret;exact ⟨ao',cap',rfl,HO.u,HG.u,HB.u,HF.u⟩
theorem Qbt(B:Nat)(ao:Option Addr)(cap X:Nat)(L:List Int)(w:World)(ho:Qi 5 B w ao cap L)(hB:B<=w.heap.size)(hX:X<4294967296)(hl:L.length<=1000000):
  Calls prog 23 #[.slice ao L.length cap,.int .u32 (X:Nat)] w fun e w'=>∃ao' cap',e=.returned (.slice ao' (L++QI (rb4 X) 4).length cap')/\Qi 5 B w' ao' cap' (L++QI (rb4 X) 4)/\w.grownBy w' (Qt ao)/\Below B w w'/\∀g,Qt ao'=some g->Qt ao=some g\/w.heap.size<=g:=by
 have HR:=Qe<|Qfq X hX w
 have HL:=Qe<|QaQ B ao cap (rb4 X) 4 L w ho hB dn (Qkm X) hl
 have ab:=Qkm X;clear ho;generalize rb4 X=R at*;obtain ⟨Z,hZ⟩:=dt (L++QI R 4);rw [hZ] at HL ⊢;clear hZ;go_enter func23,ntmps23;go_wp2_with fail;refine Calls.mono HR.u ?_;rintro e w1 ⟨rfl,s⟩;obtain rfl:=s.symm;go_wp2_with fail;refine Calls.mono HL.u ?_;rintro e w2 ⟨a2,c2,rfl,S,ag,ah,Y⟩;have O2:=Qe S;have N:=Qe ag;have B2:=Qe ah;have F2:=Qe Y;clear S ag ah Y HL HR;go_wp2_with fail;go_ret;exact ⟨a2,c2,rfl,O2.u,N.u,B2.u,F2.u⟩
def zhd(I:Nat)(dc:Bool):Nat:=(I*16+8)*256+(if dc then 32 else 0)+(31-((I*16+8)*256+(if dc then 32 else 0))%31)%31
def QcS(I:Nat)(d:List Int):List Int:=if d=[] then [((zhd I false/256:Nat):Int),((zhd I false%256:Nat):Int)] else [((zhd I true/256:Nat):Int),((zhd I true%256:Nat):Int)]++QI (rb4 (Adl.adl d).toNat) 4
def zcode(I:Nat)(d zs:List Int):List Int:=QcS I d++(pk (Qr zs)++QI (rb4 (Adl.adl zs).toNat) 4)
theorem Qf3(I:Nat)(dc:Bool)(h:I<=7):zhd I dc<65536:=by
 unfold zhd;cases dc<;>simp<;>omega
theorem Qh7(W:World)(B:Nat)(x y:Int)(t:TypeId)(hB:B<=W.heap.size):Qi t B (W.alloc (.cells #[.int .u8 x,.int .u8 y] t)) (some ⟨W.heap.size,0,none⟩) 2 [x,y]:=
 World.ownsRow_lit W #[.int .u8 x,.int .u8 y] 2 hB dy rfl
theorem QeJ(zs:List Int):∃X:Nat,Adl.adl zs=(X:Int)/\(Adl.adl zs).toNat=X/\X<4294967296:=by
 have h:=QcC zs;exact ⟨(Adl.adl zs).toNat,dk,rfl,dk⟩
theorem Ql8(I:Nat)(ao bo:Option Addr)(ca cb:Nat)(zs d:List Int)(w:World)(hI:I<=7)(hr:Q1 w ao zs)(hz:Qh zs)(hca:zs.length<=ca)(hl:zs.length<=10000)(hao:∀ad,ao=some ad->0<zs.length->ad.block<w.heap.size)(hrd:Q1 w bo d)(hd:Qh d)(hcb:d.length<=cb)(hld:d.length<=10000)(hbo:∀ad,bo=some ad->0<d.length->ad.block<w.heap.size):
  Calls prog 5 #[.slice ao zs.length ca,.int .i64 (I:Nat),.slice bo d.length cb] w fun e w'=>∃a' c',e=.returned (.slice a' (zcode I d zs).length c')/\Qi 5 w.heap.size w' a' c' (zcode I d zs)/\Below w.heap.size w w':=by
 refine ei ?_;intro i0 hi af ak aq;have A:wi (I:Int) 7=true:=decide_eq_true ⟨dk,dk⟩;have HW:=Qe<|QaL (I:Int) 7 w
 rw [A] at HW;have aY:decide ((zs.length:Int) > 100000)=false:=decide_eq_false dk;obtain ⟨X,hX,ab,a9⟩:=QeJ zs;obtain ⟨Y,hY,N,bw⟩:=QeJ d;have HR:=Qe hr;have ai:=Qe hao;have aw:=Qe hrd;have HD:=Qe hd;have V:=Qe hbo;obtain ⟨P,hP⟩:=dt (pk (Qr zs));have aC:P.length<=20000:=rm;have EF:=Qe (fun W h=>QgV ao ca zs W h hz dk);have AZ:=Qe (fun W h=>QbL ao ca zs zs.length rfl W h hz hca dk);have AD:=Qe (fun W h=>QbL bo cb d d.length rfl W h hd hcb dk);rw [hX] at AZ;rw [hY] at AD;rw [hP] at EF;clear hr hz hao hrd hd hbo;by_cases he:d=[]
 ·subst he
  have c:dm (zcode I [] zs=([((zhd I false/256:Nat):Int),((zhd I false%256:Nat):Int)]++P)++QI (rb4 X) 4):=by
   show _=_;unfold zcode QcS;rw [if_pos rfl,hP,ab,List.append_assoc]
  obtain ⟨ZC,o⟩:=dt (zcode I [] zs);rw [o] at c ⊢;obtain ⟨H,M⟩:∃H:Nat,zhd I false=H:=⟨_,rfl⟩;have u:H<65536:=M▸Qf3 I false hI;have n:dm (((I:Int)*16+8)*256+-((((I:Int)*16+8)*256)%31)%31=(H:Int)):=fw;rw [M] at c;obtain ⟨x,aW⟩:∃x:Nat,H/256=x:=⟨_,rfl⟩;obtain ⟨l,v⟩:∃l:Nat,H%256=l:=⟨_,rfl⟩;rw [aW,v] at c;refine rn ?_;intro an aa E ax O1 B1;clear M hP hX ab hY N o aW v;go_enter func5,ntmps5;go_wp2_with fail;refine Calls.mono HW.u ?_;rintro e w1 ⟨rfl,s⟩;obtain rfl:=s.symm;clear HW;go_upto_region 7 with fail;rw [n.u];clear n;go_upto_region 8 with fail;have D:w.heap.size<(w.alloc (.cells #[.int .u8 (x:Int),.int .u8 (l:Int)] 5)).heap.size:=dr;generalize w.alloc (.cells #[.int .u8 (x:Int),.int .u8 (l:Int)] 5)=W1 at*;obtain ⟨L,b⟩:=dt ([(x:Int),(l:Int)]);have hL:L.length<=100:=by rw [<-b];simp
  have z:dm (L.length=2):=by show _=_;rw [<-b];rfl
  rw [b] at O1;have HL:=Qe b;have U:=c;have O2:=O1;have B2:=B1;have ae:w.heap.size<=W1.heap.size:=dk;obtain ⟨a1,F⟩:∃a1:Option Addr,some ⟨w.heap.size,0,none⟩=a1:=⟨_,rfl⟩;obtain ⟨c1,m⟩:∃c1:Nat,2=c1:=⟨_,rfl⟩;have t:dm (Value.slice (some ⟨w.heap.size,0,none⟩) 2 2=.slice a1 L.length c1):=by show _=_;rw [z.u,F,<-m]
  rw [F,m] at O2;rw [t.u];clear O1 B1 c b F m t z D aY;have R2:=Qe<|HR.u.beneath B2.u ai.u
  go_wp2_with fail;refine Calls.mono (EF.u _ R2.u) ?_;rintro e w3 ⟨q,c3,rfl,av,r⟩;have Z:W1.heap.size<=w3.heap.size:=r.size;have K:=Qe<|Qi.below O2.u r
  have M3:dm (Qah W1.heap.size w3 q c3 P):=Qi.mine (e:=5) av;exact ro
 ·have cd:1<=d.length:=Nat.one_le_iff_ne_zero.2 (fun h=>he (List.eq_nil_of_length_eq_zero h))
  have c:dm (zcode I d zs=(([((zhd I true/256:Nat):Int),((zhd I true%256:Nat):Int)]++QI (rb4 Y) 4)++P)++QI (rb4 X) 4):=by
   show _=_;unfold zcode QcS;rw [if_neg he,hP,ab,N];simp only [List.append_assoc]
  obtain ⟨ZC,o⟩:=dt (zcode I d zs);rw [o] at c ⊢;obtain ⟨H,M⟩:∃H:Nat,zhd I true=H:=⟨_,rfl⟩;have u:H<65536:=M▸Qf3 I true hI;have n:dm (((I:Int)*16+8)*256+32+-((((I:Int)*16+8)*256+32)%31)%31=(H:Int)):=fw;rw [M] at c;obtain ⟨x,aW⟩:∃x:Nat,H/256=x:=⟨_,rfl⟩;obtain ⟨l,v⟩:∃l:Nat,H%256=l:=⟨_,rfl⟩;rw [aW,v] at c;refine rn ?_;intro an aa E ax O1 B1;clear M hP hX ab hY N o aW v;go_enter func5,ntmps5;go_wp2_with fail;refine Calls.mono HW.u ?_;rintro e w1 ⟨rfl,s⟩;obtain rfl:=s.symm;clear HW;go_upto_region 7 with fail;rw [n.u];clear n;go_upto_region 8 with fail;have D:w.heap.size<(w.alloc (.cells #[.int .u8 (x:Int),.int .u8 (l:Int)] 5)).heap.size:=dr;generalize w.alloc (.cells #[.int .u8 (x:Int),.int .u8 (l:Int)] 5)=W1 at*;have R1:=Qe<|aw.u.beneath B1.u V.u
  have al:=Qe<|Qbt w.heap.size (some ⟨w.heap.size,0,none⟩) 2 Y [(x:Int),(l:Int)] W1 O1.u dk bw dr
  obtain ⟨L,b⟩:=dt ([(x:Int),(l:Int)]++QI (rb4 Y) 4);have hL:L.length<=100:=by rw [<-b,List.length_append,QN];simp
  rw [b] at al;have HL:=Qe b;have U:=c;clear b c O1 aY;go_wp2_with fail;refine Calls.mono (AD.u _ R1.u) ?_;rintro e w1 ⟨rfl,s⟩;obtain rfl:=s.symm;go_wp2_with fail;refine Calls.mono al.u ?_;rintro e w2 ⟨a1,c1,rfl,S,ag,ah,_⟩;have O2:=Qe S;have B2:=Qe<|B1.u.trans ah
  have ae:w.heap.size<=w2.heap.size:=by have:=ah.size;omega
  clear S ag ah B1 R1 al;have R2:=Qe<|HR.u.beneath B2.u ai.u
  go_wp2_with fail;refine Calls.mono (EF.u _ R2.u) ?_;rintro e w3 ⟨q,c3,rfl,av,r⟩;have Z:w2.heap.size<=w3.heap.size:=r.size;have K:=Qe<|Qi.below O2.u r
  have M3:dm (Qah w2.heap.size w3 q c3 P):=Qi.mine (e:=5) av;exact ro
end Go.Proofs.YtgginbpmebgkcaaGreatDoor
