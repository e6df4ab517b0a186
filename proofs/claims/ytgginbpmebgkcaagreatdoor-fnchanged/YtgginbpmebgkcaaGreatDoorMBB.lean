import Derived.Deep.RegionWith
import Derived.Deep.CutRange
import Derived.Deep.LoopGhost
import Derived.Test.YtgginbpmebgkcaaGreatDoorMAW
namespace Go.Proofs.YtgginbpmebgkcaaGreatDoor
open Go.RowKit Go.Proofs.Tryz
attribute [local go_sem ↓] Go.wp_at_zero Go.wp_at_succ
set_option linter.unusedVariables false
set_option maxRecDepth 100000
set_option maxHeartbeats 25600000
section
variable{zs tb:List Int}{r:RR}{n lo hi B g o:Nat}{w w':World}{co:Option Addr}{F:Nat->Nat×Nat}{row:Option Nat}
theorem Qda(h:r.1<=8*zs.length):(tk zs r n).1.1<=8*zs.length:=by
 unfold tk;split
 ·split
  ·rename_i J;exact J
  ·exact h
 ·exact h
theorem Qbr(zs:List Int)(r:RR)(n:Nat):(tk zs r n).2<2^n:=by
 have H:0<2^n:=Nat.two_pow_pos n;unfold tk;split
 ·split
  ·exact Q4 _ _ _
  ·exact H
 ·exact H
theorem Qbd(r:RR)(p:Bool):(VJ r p).1=r.1:=by unfold VJ;split<;>rfl
theorem Qrp(h:r.1<=8*zs.length):(sy zs r tb).1.1<=8*zs.length:=by
 unfold sy;split
 ·have J:=@Qlw tb (field (bnum zs) r.1 (lkn zs r.1)) (lkn zs r.1)
  have h2:lkn zs r.1<=8*zs.length-r.1:=Nat.min_le_left _ _;dsimp only;omega
 ·exact h
theorem QqA(h0:r.2=0)(h1:(sy zs r tb).1.2=0):(sy zs r tb).2<tb.length:=by
 unfold sy at h1 ⊢;rw [if_pos h0] at h1 ⊢;dsimp only at h1 ⊢;rcases Qbi tb (field (bnum zs) r.1 (lkn zs r.1)) (lkn zs r.1) with h|h|h
 ·rw [h,if_neg dn,if_pos rfl] at h1;exact absurd h1 dn
 ·exact (QaP h).1
 ·rw [h,if_pos rfl] at h1;exact absurd h1 dn
theorem QqR{all:List Int}{x:Nat}(h:r.1<=8*zs.length):(rpt zs r all x).1.1<=8*zs.length:=by
 unfold rpt;split
 ·exact Qda (by rw [Qbd];exact h)
 ·split
  ·exact Qda h
  ·split
   ·exact Qda h
   ·exact h
theorem QeB(r:RR)(all:List Int)(v:Int)(t:Nat):(ups r all v t).length<=all.length+t:=by
 unfold ups;split<;>simp
theorem QoS(zs all:List Int)(r:RR)(x:Nat):(rpt zs r all x).2.length<=all.length+138:=by
 unfold rpt;split
 ·refine Nat.le_trans (QeB _ _ _ _) ?_
  have:=Qbr zs (VJ r (decide (all.length=0))) 2;omega
 ·split
  ·refine Nat.le_trans (QeB _ _ _ _) ?_
   have:=Qbr zs r 3;omega
  ·split
   ·refine Nat.le_trans (QeB _ _ _ _) ?_
    have:=Qbr zs r 7;omega
   ·refine Nat.le_trans (QeB _ _ _ _) ?_
    omega
theorem Qra(h:hk zs=1):okC zs=true:=by
 have ho:okB zs=true:=by
  cases hb:okB zs with
  | true=>rfl
  | false=>
   exact pB
 unfold okC;rw [h,ho];rfl
theorem At.weak{k:Int}{cf:LC}{s:Nat}{P Q:LC->Prop}(h:At zs k cf s r P)(hq:∀c,P c->Q c):At zs k cf s r Q:=
 ⟨h.no,fun e=>by obtain ⟨c,h1,h2,h3,h4,h5⟩:=h.yes e;exact ⟨c,h1,h2,h3,h4,hq c h5⟩⟩
theorem QrL(w:World)(B:Nat)(hB:B<=w.heap.size):QR B (w.alloc (.cells #[.int .i64 0,.int .i64 0,.int .i64 0,.int .i64 0,.int .i64 0,.int .i64 0,.int .i64 0,.int .i64 0,.int .i64 0,.int .i64 0,.int .i64 0,.int .i64 0,.int .i64 0,.int .i64 0,.int .i64 0,.int .i64 0,.int .i64 0,.int .i64 0,.int .i64 0] 2)) (some ⟨w.heap.size,0,none⟩) 19 (List.replicate 19 0):=
 World.ownsRow_lit w #[.int .i64 0,.int .i64 0,.int .i64 0,.int .i64 0,.int .i64 0,.int .i64 0,.int .i64 0,.int .i64 0,.int .i64 0,.int .i64 0,.int .i64 0,.int .i64 0,.int .i64 0,.int .i64 0,.int .i64 0,.int .i64 0,.int .i64 0,.int .i64 0,.int .i64 0] 19 hB dy rfl
def VB(lo hi:Nat)(w:World)(co:Option Addr)(n:Nat)(F:Nat->Nat×Nat):Prop:=0<n->∃g,co=some ⟨g,0,none⟩/\lo<=g/\g<hi/\VP w g n F
theorem VB.grown(h:VB lo hi w co n F)(hg:w.grownBy w' row)(hne:∀k,row=some k->k<lo\/hi<=k):VB lo hi w' co n F:=fun h0=>by
 obtain ⟨g,h1,h2,h3,h4⟩:=h h0
 exact ⟨g,h1,h2,h3,h4.grown hg (fun e=>by have:=hne g e.symm;omega)⟩
theorem VB.below(h:VB lo hi w co n F)(hb:Below w.heap.size w w'):VB lo hi w' co n F:=h.grown (Qk hb none) (fun k e=>dx)
theorem VB.reads(h:VB lo hi w co n F):Qba w co n F:=fun h0=>by
 obtain ⟨g,h1,_,_,h4⟩:=h h0
 exact ⟨g,h1,h4⟩
theorem Qge.codesIn(h:Qge B w co n F)(hB:lo<=B)(hlt:∀g,VP w g n F->0<n->g<w.heap.size):VB lo w.heap.size w co n F:=fun h0=>by
 obtain ⟨g,h1,h2,h3⟩:=h h0
 exact ⟨g,h1,dk,hlt g h3 h0,h3⟩
theorem Qv.grownL(h:Qv w (some ⟨g,o,none⟩) zs)(hg:w.grownBy w' row)(hne:some g≠row):Qv w' (some ⟨g,o,none⟩) zs:=by
 intro i hi;obtain ⟨b,U,e,I⟩:=h i hi;cases e
 exact ⟨g,o,rfl,(World.cell?_of_block (w:=w) (a:=⟨g,o+i,none⟩) (hg.block g (World.block_lt_of_cell? w _ I) hne)).trans I⟩
theorem Qlr(a b:Int):(a != b)=decide (a≠b):=by
 by_cases h:a=b<;>simp [h]
def Qdp(B:Nat)(a1 a2:Option Addr):Prop:=∀g,Qt a1=some g\/Qt a2=some g->B<=g
theorem Qo4{p:Nat}(h:B<=g):Qdp B (some ⟨g,o,none⟩) (some ⟨g,p,none⟩):=fun g' e=>by
 simp [Qt] at e
 omega
theorem QnE(h:B<=g):Qdp B (some ⟨g,0,none⟩) (some ⟨g+1,0,none⟩):=fun g' e=>by
 simp [Qt] at e
 omega
def QrD(w w':World)(i Z:Nat)(a1 a2:Option Addr):Prop:=Below w.heap.size w w'/\i<=8*Z/\Qdp w.heap.size a1 a2
def Qf4(zs:List Int)(ao:Option Addr)(cap:Nat)(k:Int)(cf:LC)(e:Ending)(w w':World):Prop:=
 ∃(i':Nat) (cl:Int) (a1:Option Addr) (n1 c1:Nat) (a2:Option Addr) (n2 c2:Nat),e=.returned (.tuple #[.agg #[.slice ao zs.length cap,.int .i64 (i':Nat),.int .i64 cl],.slice a1 n1 c1,.slice a2 n2 c2])/\
  (k=1->cl=0/\i'=cf.i/\n1=(cf.lens.take (cf.f 2).toNat).length/\n2=(cf.lens.drop (cf.f 2).toNat).length/\Qv w' a1 (cf.lens.take (cf.f 2).toNat)/\Qv w' a2 (cf.lens.drop (cf.f 2).toNat))/\(k≠1->cl=k)/\QrD w w' i' zs.length a1 a2
theorem Qkt(ao:Option Addr)(cap:Nat)(zs:List Int)(i:Nat)(k:Int)(cf c0:LC)(w:World)(hr:Q1 w ao zs)(hz:Qh zs)(hzl:zs.length<=65536)(hi:i<=8*zs.length)(hc0:c0.st=0)(hci:c0.i=i)(he:Vy zs c0 k cf):
  Calls prog 81 #[.agg #[.slice ao zs.length cap,.int .i64 (i:Nat),.int .i64 0]] w fun e w'=>Qf4 zs ao cap k cf e w w':=by
 have aw:dm (∀W i n cl,Below w.heap.size w W->i<=8*zs.length->n<=32->Calls prog 48 #[.agg #[.slice ao zs.length cap,.int .i64 (i:Nat),.int .i64 cl],.int .i64 (n:Nat)] W fun e w'=>e=.returned (.tuple #[.agg #[.slice ao zs.length cap,.int .i64 ((tk zs (i,cl) n).1.1:Nat),.int .i64 (tk zs (i,cl) n).1.2],.int .i64 ((tk zs (i,cl) n).2:Nat)])/\Below W.heap.size W w'):=fun W i n cl hW hi hn=>VN ao cap zs i n cl W (hr.below hW) hz hzl hi hn
 have aq:dm (∀W i cl tb co nc cc,Below w.heap.size w W->i<=8*zs.length->(cl=0->okC tb=true/\nc=tb.length/\Qba W co tb.length (code tb))->Calls prog 120 #[.agg #[.slice ao zs.length cap,.int .i64 (i:Nat),.int .i64 cl],.slice co nc cc] W fun e w'=>e=.returned (.tuple #[.agg #[.slice ao zs.length cap,.int .i64 ((sy zs (i,cl) tb).1.1:Nat),.int .i64 (sy zs (i,cl) tb).1.2],.int .i64 ((sy zs (i,cl) tb).2:Nat)])/\Below W.heap.size W w'):=fun W i cl tb co nc cc hW hi hcd=>QdT ao cap zs i cl tb co nc cc W (hr.below hW) hz hzl hi hcd
 have aQ:dm (∀W i aa ca p x B,Below w.heap.size w W->i<=8*zs.length->QR B W aa ca p->B<=W.heap.size->x<19->p.length<=1000->Calls prog 121 #[.agg #[.slice ao zs.length cap,.int .i64 (i:Nat),.int .i64 0],.slice aa p.length ca,.int .i64 (x:Nat)] W fun e w'=>QeC zs ao cap aa B (rpt zs (i,0) p x) e W w'):=fun W i aa ca p x B hW hi ho a hx T=>Qhr ao cap zs i aa ca p x B W (hr.below hW) hz hzl hi ho a hx T
 have A0:dm (At zs k cf 0 (i,0) (fun _=>True)):=⟨fun h=>absurd rfl h,fun _=>⟨c0,hc0,hci,QQ.none c0 hc0,he,trivial⟩⟩;clear hr hz he hc0 hci;unfold Qf4;unfold QeC at aQ;generalize hZ:zs.length=Z at*;have av:=Qe hZ;clear hZ;have BW:dm (L5m ((w.alloc (.cells #[.slice ao Z cap,.int .i64 (i:Nat),.int .i64 0] 85)).alloc (.cells #[.slice none 0 0,.int .i64 0,.int .i64 0] 85)) w.heap.size (.slice ao Z cap) (i:Nat) 0):=(VI w (.slice ao Z cap) (i:Nat) 0 85).below ((Below.refl _ _).alloc (Nat.le_refl _) _);have L:dm (L5m ((w.alloc (.cells #[.slice ao Z cap,.int .i64 (i:Nat),.int .i64 0] 85)).alloc (.cells #[.slice none 0 0,.int .i64 0,.int .i64 0] 85)) (w.heap.size+1) (.slice none 0 0) 0 0):=jM;have z:dm (Below w.heap.size w ((w.alloc (.cells #[.slice ao Z cap,.int .i64 (i:Nat),.int .i64 0] 85)).alloc (.cells #[.slice none 0 0,.int .i64 0,.int .i64 0] 85))):=((Below.refl _ _).alloc (Nat.le_refl _) _).alloc dr _;go_enter func81,ntmps81;go_upto_region 5 with fail;generalize (w.alloc (.cells #[.slice ao Z cap,.int .i64 (i:Nat),.int .i64 0] 85)).alloc (.cells #[.slice none 0 0,.int .i64 0,.int .i64 0] 85)=W at*;obtain ⟨i1,c1,F1,hT⟩:=dH (tk zs (i,0) 5);have aG:i1<=8*Z:=by
  have:=Qda (zs:=zs) (r:=(i,0)) (n:=5) (by rw [av.u];exact hi);exact iz
 have bE:F1<32:=by
  have:=Qbr zs (i,0) 5;exact fo
 have b4:=Qe hT;clear hT;refine dR ?_;intro b0 b1 b2 C z1;clear C;go_wp2_with fail;clear b0 b1 b2 z1;refine Calls.mono (aw.u _ i 5 0 z.u hi dn) ?_;rintro e w1 ⟨rfl,hb⟩;rw [b4.u];dsimp only;refine eD ?_;intro M R' K;clear hb BW L z;have E:=Qe<|M.u.set (.slice ao Z cap) (i1:Nat) c1
 refine es ?_;intro BW L z;refine eu ?_;intro b0 b1 b2 C z1 ag G ae;clear C;go_upto_region 7 with fail;clear b0 b1 b2 ag G ae z1 E M R' K;generalize (((w1.setCell ⟨w.heap.size,0,none⟩ (.slice ao Z cap)).setCell ⟨w.heap.size,1,none⟩ (.int .i64 (i1:Nat))).setCell ⟨w.heap.size,2,none⟩ (.int .i64 c1))=W at*;obtain ⟨i2,c2,a⟩:=dI (VJ (i1,c1) (decide (286<(F1:Int)+257)));have bO:i2<=8*Z:=by
  have:=Qbd (i1,c1) (decide (286<(F1:Int)+257));rw [a] at this;exact fm
 have bT:=Qe a;clear a;refine dR ?_;intro b0 b1 b2 C z1;clear C;go_wp2_with fail;clear b0 b1 b2 z1;refine Calls.mono (Q0 ao Z cap i1 c1 (decide (286<(F1:Int)+257)) _) ?_;rintro e w2 ⟨rfl,hb⟩;rw [bT.u];dsimp only;refine eD ?_;intro M R' K;clear hb BW L z;have E:=Qe<|M.u.set (.slice ao Z cap) (i2:Nat) c2
 refine es ?_;intro BW L z;refine eu ?_;intro b0 b1 b2 C z1 ag G ae;clear C;go_upto_region 8 with fail;clear b0 b1 b2 ag G ae z1 E M R' K;generalize (((w2.setCell ⟨w.heap.size,0,none⟩ (.slice ao Z cap)).setCell ⟨w.heap.size,1,none⟩ (.int .i64 (i2:Nat))).setCell ⟨w.heap.size,2,none⟩ (.int .i64 c2))=W at*;have A1:=Qe<|QqM A0.u
 rw [b4.u] at A1;dsimp only at A1;rw [bT.u] at A1;obtain ⟨i3,c3,F2,hT⟩:=dH (tk zs (i2,c2) 5);have aV:i3<=8*Z:=by
  have:=Qda (zs:=zs) (r:=(i2,c2)) (n:=5) (by rw [av.u];exact bO);exact iz
 have da:F2<32:=by
  have:=Qbr zs (i2,c2) 5;exact fo
 have aB:=Qe hT;clear hT;refine dR ?_;intro b0 b1 b2 C z1;clear C;go_wp2_with fail;clear b0 b1 b2 z1;refine Calls.mono (aw.u _ i2 5 c2 z.u bO dn) ?_;rintro e w3 ⟨rfl,hb⟩;rw [aB.u];dsimp only;refine eD ?_;intro M R' K;clear hb BW L z;have E:=Qe<|M.u.set (.slice ao Z cap) (i3:Nat) c3
 refine es ?_;intro BW L z;refine eu ?_;intro b0 b1 b2 C z1 ag G ae;clear C;go_upto_region 10 with fail;clear b0 b1 b2 ag G ae z1 E M R' K;generalize (((w3.setCell ⟨w.heap.size,0,none⟩ (.slice ao Z cap)).setCell ⟨w.heap.size,1,none⟩ (.int .i64 (i3:Nat))).setCell ⟨w.heap.size,2,none⟩ (.int .i64 c3))=W at*;obtain ⟨i4,c4,a⟩:=dI (VJ (i3,c3) (decide (30<(F2:Int)+1)));have aL:i4<=8*Z:=by
  have:=Qbd (i3,c3) (decide (30<(F2:Int)+1));rw [a] at this;exact fm
 have bZ:=Qe a;clear a;refine dR ?_;intro b0 b1 b2 C z1;clear C;go_wp2_with fail;clear b0 b1 b2 z1;refine Calls.mono (Q0 ao Z cap i3 c3 (decide (30<(F2:Int)+1)) _) ?_;rintro e w4 ⟨rfl,hb⟩;rw [bZ.u];dsimp only;refine eD ?_;intro M R' K;clear hb BW L z;have E:=Qe<|M.u.set (.slice ao Z cap) (i4:Nat) c4
 refine es ?_;intro BW L z;refine eu ?_;intro b0 b1 b2 C z1 ag G ae;clear C;go_upto_region 11 with fail;clear b0 b1 b2 ag G ae z1 E M R' K;generalize (((w4.setCell ⟨w.heap.size,0,none⟩ (.slice ao Z cap)).setCell ⟨w.heap.size,1,none⟩ (.int .i64 (i4:Nat))).setCell ⟨w.heap.size,2,none⟩ (.int .i64 c4))=W at*;have A2:=Qe<|QoF A1.u
 rw [aB.u] at A2;dsimp only at A2;rw [bZ.u] at A2;obtain ⟨i5,c5,F3,hT⟩:=dH (tk zs (i4,c4) 4);have bM:i5<=8*Z:=by
  have:=Qda (zs:=zs) (r:=(i4,c4)) (n:=4) (by rw [av.u];exact aL);exact iz
 have cX:F3<16:=by
  have:=Qbr zs (i4,c4) 4;exact fo
 have bq:=Qe hT;clear hT;refine dR ?_;intro b0 b1 b2 C z1;clear C;go_wp2_with fail;clear b0 b1 b2 z1;refine Calls.mono (aw.u _ i4 4 c4 z.u aL dn) ?_;rintro e w5 ⟨rfl,hb⟩;rw [bq.u];dsimp only;refine eD ?_;intro M R' K;clear hb BW L z;have E:=Qe<|M.u.set (.slice ao Z cap) (i5:Nat) c5
 refine es ?_;intro BW L z;refine eu ?_;intro b0 b1 b2 C z1 ag G ae;clear C;go_upto_region 12 with fail;clear b0 b1 b2 ag G ae z1 E M R' K;generalize (((w5.setCell ⟨w.heap.size,0,none⟩ (.slice ao Z cap)).setCell ⟨w.heap.size,1,none⟩ (.int .i64 (i5:Nat))).setCell ⟨w.heap.size,2,none⟩ (.int .i64 c5))=W at*;have A3:=Qe<|Qpo A2.u
 rw [bq.u] at A3;dsimp only at A3;clear A0 A1 A2 b4 aB bq bT bZ hi aG bO aV aL;have SW:=Qe<|QrL W (w.heap.size+2) fY
 have b6:Below W.heap.size W (W.alloc (.cells #[.int .i64 0,.int .i64 0,.int .i64 0,.int .i64 0,.int .i64 0,.int .i64 0,.int .i64 0,.int .i64 0,.int .i64 0,.int .i64 0,.int .i64 0,.int .i64 0,.int .i64 0,.int .i64 0,.int .i64 0,.int .i64 0,.int .i64 0,.int .i64 0,.int .i64 0] 2)):=(Below.refl _ _).alloc (Nat.le_refl _) _;have B6:=Qe<|BW.u.below b6
 have R6:=Qe<|L.u.below b6
 have L6:=Qe<|z.u.trans (b6.mono z.u.size)
 have aP:w.heap.size+1<W.heap.size:=L.u.lt;clear b6 BW L z;have BW:=B6;have L:=R6;have z:=L6;clear B6 R6 L6;go_upto_region 13 with fail;obtain ⟨gs,bN⟩:=dt W.heap.size;rw [bN] at SW aP ⊢;generalize W.alloc (.cells #[.int .i64 0,.int .i64 0,.int .i64 0,.int .i64 0,.int .i64 0,.int .i64 0,.int .i64 0,.int .i64 0,.int .i64 0,.int .i64 0,.int .i64 0,.int .i64 0,.int .i64 0,.int .i64 0,.int .i64 0,.int .i64 0,.int .i64 0,.int .i64 0,.int .i64 0] 2)=W6 at*;clear bN;have cu:dm (At zs k cf 3 (i5,c5) (fun c=>c.f 2=(F1:Int)+257/\c.f 3=(F2:Int)+1/\c.f 4=((F3+4:Nat):Int)/\c.f 24=((0:Nat):Int)/\cl19 c.f=List.replicate 19 0)):=A3.u.weak (fun c h=>⟨h.1,h.2.1,by rw [h.2.2.1];omega,h.2.2.2.1,h.2.2.2.2⟩);clear A3;go_upto_region 14 with fail;go_loopw [8,10] (fun x kk wr=>∃(X:Int) (j y:Nat) (c':Int) (b:List Int),x=.int .i64 X/\kk=.int .i64 (j:Nat)/\j<=F3+4/\y<=8*Z/\dm (b.length=19)/\dm (L5m wr w.heap.size (.slice ao Z cap) (y:Nat) c')/\dm (L5m wr (w.heap.size+1) (.slice none 0 0) 0 0)/\dm (Below w.heap.size w wr)/\dm (QR (w.heap.size+2) wr (some ⟨gs,0,none⟩) 19 b)/\dm (j<F3+4->At zs k cf 3 (y,c') (fun c=>c.f 2=(F1:Int)+257/\c.f 3=(F2:Int)+1/\c.f 4=((F3+4:Nat):Int)/\c.f 24=(j:Int)/\cl19 c.f=b))/\dm (j=F3+4->At zs k cf 4 (VJ (y,c') (decide (hk b≠1))) (fun c=>c.f 2=(F1:Int)+257/\c.f 3=(F2:Int)+1/\c.tb=b/\c.lens=[]))) (fun _ kk _=>F3+4-(intOf kk).toNat)
 case atStart=>exact ⟨0,0,i5,c5,List.replicate 19 0,rfl,rfl,Nat.zero_le _,bM,rfl,BW,L,z,SW,(fun _=>cu.u),(fun h=>dk)⟩
 case round=>
  clear BW L z SW cu;obtain ⟨X,j,y,c',b,rfl,rfl,hj,a8,bp,BW,L,z,SW,HA,HE⟩:=hrel;by_cases ab:j<F3+4
  ·have a6:((j:Int)<(F3:Int)+4):=dk
   obtain ⟨i6,c6,F4,hT⟩:=dH (tk zs (y,c') 3);have bI:i6<=8*Z:=by
    have:=Qda (zs:=zs) (r:=(y,c')) (n:=3) (by rw [av.u];exact a8);exact iz
   have cS:F4<8:=by
    have:=Qbr zs (y,c') 3;exact fo
   have bu:=Qe hT;clear hT;refine dR ?_;intro b0 b1 b2 C z1;clear C;go_wp2_with fail;clear b0 b1 b2 z1;refine Calls.mono (aw.u _ y 3 c' z.u a8 dn) ?_;rintro e w6 ⟨rfl,hb⟩;rw [bu.u];dsimp only;refine eD ?_;intro M R' K;have bW:=Qe<|SW.u.below hb
   clear hb BW L z SW;have E:=Qe<|M.u.set (.slice ao Z cap) (i6:Nat) c6
   refine es ?_;intro BW L z;have SW:=Qe<|bW.u.grown E.u.2 (fun g e he=>by have:=bW.u.base g he;simp at e;omega)
   refine eu ?_;intro b0 b1 b2 C z1 ag G ae;clear C;go_upto_region 17 with fail;clear b0 b1 b2 ag G ae z1 E M R' K bW;generalize (((w6.setCell ⟨w.heap.size,0,none⟩ (.slice ao Z cap)).setCell ⟨w.heap.size,1,none⟩ (.int .i64 (i6:Nat))).setCell ⟨w.heap.size,2,none⟩ (.int .i64 c6))=W7 at*;have bK:=Qqd (HA.u ab) ab dk;rw [bu.u] at bK;dsimp only at bK;have b7:=Qe bK;clear bK HA HE bu;go_wp2_with fail;refine Calls.mono (Qie _) ?_;rintro e w8 ⟨g,rfl,an,O,hb⟩;have ch:=an j dk;have ho:=Qfp j dk;obtain ⟨o,cm⟩:=dt (ord19 j);rw [cm] at b7 ch ho;have B8:=Qe<|BW.u.below hb
   have R8:=Qe<|L.u.below hb
   have L8:=Qe<|z.u.trans (hb.mono z.u.size)
   have S8:=Qe<|SW.u.below hb
   have ad:g<w8.heap.size:=World.block_lt_of_cell? w8 _ ch;have cN:gs≠g:=by have:=SW.u.lies gs rfl;omega
   have cP:gs<w8.heap.size:=S8.u.lies gs rfl;clear an O hb cm BW L z SW;have bF:=S8.u.cell (k:=o) (by rw [bp.u];exact ho);have cT:=S8.u.free o;have V9:=Qe<|Qf w8 ⟨gs,o,none⟩ (.int .i64 (F4:Nat))
   have B9:=Qe<|B8.u.grown V9.u du
   have R9:=Qe<|R8.u.grown V9.u du
   have L9:=Qe<|L8.u.grown V9.u (by have:=B8.u.lt;omega) dz
   have S9:=Qe<|S8.u.set o (F4:Nat)
   have ct:dm ((b.set o (F4:Nat)).length=19):=by show _=_;rw [List.length_set];exact bp.u
   clear V9 B8 R8 L8 S8;go_wp2_with fail;go_roundw
   case rel=>exact ⟨(F4:Nat),j+1,i6,c6,b.set o (F4:Nat),rfl,dw,dk,bI,ct,B9,R9,L9,S9,(fun h=>b7.u.1 h),(fun h=>b7.u.2 h)⟩
   case measure=>simp [intOf];omega
  ·have a6:¬((j:Int)<(F3:Int)+4):=dk
   have cE:decide ((j:Int)<(F3:Int)+4)=false:=decide_eq_false a6;have A4:=Qe<|HE.u dk
   clear HA HE ab;go_upto_region 18 with fail;have a':=Qe (fun V (hV:Qv V (some ⟨gs,0,none⟩) b)=>QdZ (some ⟨gs,0,none⟩) 19 b V hV (by rw [bp.u];decide));have bl:=Qe (fun V (hV:Qv V (some ⟨gs,0,none⟩) b)=>QbY (some ⟨gs,0,none⟩) 19 b V hV (by rw [bp.u];decide));rw [bp.u] at a' bl;have bz:dm (hk b=1->okC b=true):=Qra;generalize hk b=H at*;obtain ⟨i7,c7,af⟩:=dI (VJ (y,c') (decide (H≠1)));rw [af] at A4;have b8:i7<=8*Z:=by
    have:=Qbd (y,c') (decide (H≠1));rw [af] at this;exact fm
   have bh:dm (c7=0->H=1):=by
    intro h;by_cases J:H=1
    ·exact J
    ·unfold VJ at af
     by_cases h2:c'=0
     ·rw [if_pos ⟨h2,decide_eq_true J⟩] at af
      injection af with _ e;omega
     ·rw [if_neg (fun x=>h2 x.1)] at af
      injection af with _ e;omega
   rw [<-Qlr] at af;have bd:=Qe af;clear af;go_cut [8] from 61 to 134 (fun x wx=>x=.int .i64 X/\dm (L5m wx w.heap.size (.slice ao Z cap) (i7:Nat) c7)/\dm (L5m wx (w.heap.size+1) (.slice none 0 0) 0 0)/\dm (Below w.heap.size w wx)/\dm (QR (w.heap.size+2) wx (some ⟨gs,0,none⟩) 19 b))
   case first=>
    refine dR ?_;intro b0 b1 b2 C z1;clear C;go_region_with (first|(go_at_call 102;refine Calls.mono (a'.u _ (SW.u.row.below ((Below.refl _ _).drew))) ?_;rintro e wk ⟨rfl,q,rfl⟩)|(go_at_call 40;refine Calls.mono (Q0 ao Z cap y c' (H != 1) _) ?_;rintro e w9 ⟨rfl,ax⟩;rw [bd.u];dsimp only;have t:Below wr.heap.size wr w9:=(Qo _ wr _).trans ax;obtain ⟨_,_,_,aF⟩:=BW.u.below t;have:=aF 0;have:=aF 1;have:=aF 2;have:=(BW.u.below t).lt))
    all_goals
     have E:=Qe<|(BW.u.below t).set (.slice ao Z cap) (i7:Nat) c7
     have R9:=Qe<|(L.u.below t).grown E.u.2 dr
     have S9:=Qe<|(SW.u.below t).grown E.u.2 (fun g e he=>by have:=SW.u.base g he;simp at e;omega)
     have L9:=Qe<|(z.u.trans (t.mono z.u.size)).grown E.u.2 fZ dz
     clear b0 b1 b2 z1;go_wp2_with fail;go_meet;exact ⟨rfl,E.u.1,R9,L9,S9⟩
   case rest=>
    clear BW L z SW;obtain ⟨rfl,BW,L,z,SW⟩:=hcut;have HC:=Qe<|bl.u wc SW.u.row
    go_wp2_with fail;refine Calls.mono HC.u ?_;rintro e ak ⟨⟨co,cc,rfl,b3⟩,hb⟩;have bH:w.heap.size+2<=wc.heap.size:=fY;have CD:=Qe<|b3.codesIn bH (fun g I _=>I.lt)
    have B1:=Qe<|BW.u.below hb
    have R1:=Qe<|L.u.below hb
    have L1:=Qe<|z.u.trans (hb.mono z.u.size)
    have cF:w.heap.size+2<=ak.heap.size:=eT;have cg:dm (H=1->okC b=true/\nC b=b.length):=fun h=>⟨bz.u h,by unfold nC;rw [bz.u h];rfl⟩
    generalize nC b=N1 at*;clear b3 hb BW L z SW HC a' bl bz bd bH;have bt:Below ak.heap.size ak (ak.alloc (.cells #[] 2)):=(Below.refl _ _).alloc (Nat.le_refl _) _;have S:=Qe<|Qr6 ak ak.heap.size (Nat.le_refl _)
    have BW:=Qe<|B1.u.below bt
    have L:=Qe<|R1.u.below bt
    have z:=Qe<|L1.u.trans (bt.mono L1.u.size)
    have cj:=Qe<|CD.u.below bt
    have a0:ak.heap.size<=(ak.alloc (.cells #[] 2)).heap.size:=bt.size;clear bt B1 R1 L1 CD;have CD:=cj;clear cj;go_upto_region 21 with fail;obtain ⟨Q,hQ⟩:=dt ak.heap.size;rw [hQ] at S CD cF a0 ⊢;generalize ak.alloc (.cells #[] 2)=cW at*;clear hQ;have IN:=Qe<|In2.of_at A4.u dk
    have cq:dm (((F1:Int)+257+((F2:Int)+1)).toNat=F1+F2+258):=by show _=_;omega
    clear A4;go_loopg [8,12] (mu2 (F1+F2+258) (i7,c7) []) (fun n x v wr=>∃(X:Int) (y:Nat) (c':Int) (aa:Option Addr) (ca:Nat) (p:List Int),x=.int .i64 X/\v=.slice aa p.length ca/\dm (mu2 (F1+F2+258) (y,c') p=n)/\y<=8*Z/\dm (c'=0->H=1)/\p.length<=800/\dm (L5m wr w.heap.size (.slice ao Z cap) (y:Nat) c')/\dm (L5m wr (w.heap.size+1) (.slice none 0 0) 0 0)/\dm (Below w.heap.size w wr)/\dm (QR Q wr aa ca p)/\Q<=wr.heap.size/\dm (VB (w.heap.size+2) Q wr co N1 (code b))/\dm (In2 zs k cf ((F1:Int)+257) ((F2:Int)+1) b (y,c') p))
    case atStart=>exact ⟨X,i7,c7,_,0,[],rfl,rfl,rfl,b8,bh,dr,BW,L,z,S,a0,CD,IN⟩
    case round=>
     clear BW L z S CD IN bh a0 b8;obtain ⟨X1,y,c',aa,ca,p,rfl,rfl,a9,a8,bh,T,BW,L,z,S,a0,CD,IN⟩:=hrel;by_cases I:c'=0
     ·subst I
      by_cases hl:p.length<F1+F2+258
      ·have bx:((p.length:Int)<(F1:Int)+257+((F2:Int)+1)):=dk
       have aH:=Qe<|Qm9 IN.u rfl bx
       have aJ:=Qe<|Qnx (zs:=zs) (tb:=b) (N:=F1+F2+258) (r:=(y,0)) (all:=p) rfl hl
       rw [cq.u] at aH;rw [a9.u] at aJ;unfold rnd at aH aJ;obtain ⟨i8,c8,x8,hS⟩:=dH (sy zs (y,0) b);have b':i8<=8*Z:=by
        have:=Qrp (zs:=zs) (tb:=b) (r:=(y,0)) (by rw [av.u];exact a8);rw [hS,av.u] at this;exact this
       have bw:c8=0->x8<19:=by
        intro h;have:=QqA (zs:=zs) (tb:=b) (r:=(y,0)) rfl (by rw [hS];exact h);rw [hS,bp.u] at this;exact this
       rw [hS] at aH aJ;dsimp only at aH aJ;have cp:=Qe hS;have aW:=bh.u rfl;have aK:=Qe (show okC b=true/\N1=b.length/\Qba wr co b.length (code b) from by
        obtain ⟨o1,o2⟩:=cg.u aW;exact ⟨o1,o2,o2▸CD.u.reads⟩)
       clear hS a9 IN;refine dR ?_;intro b0 b1 b2 C z1;clear C;go_wp2_with fail;clear b0 b1 b2 z1;refine Calls.mono (aq.u _ y 0 b co N1 cc z.u a8 (fun _=>aK.u)) ?_;rintro e cd ⟨rfl,hb⟩;rw [cp.u];dsimp only;refine eD ?_;intro M R' K;have aI:Q<=cd.heap.size:=eT;have aR:=Qe<|S.u.below hb
       have bk:=Qe<|CD.u.below hb
       clear hb BW L z S CD;have E:=Qe<|M.u.set (.slice ao Z cap) (i8:Nat) c8
       refine es ?_;intro BW L z;refine kE ?_;intro S;have CD:=Qe<|bk.u.grown E.u.2 (fun g e=>dJ)
       have bb:Q<=(((cd.setCell ⟨w.heap.size,0,none⟩ (.slice ao Z cap)).setCell ⟨w.heap.size,1,none⟩ (.int .i64 (i8:Nat))).setCell ⟨w.heap.size,2,none⟩ (.int .i64 c8)).heap.size:=Nat.le_trans aI E.u.2.size;clear aI;refine eu ?_;intro b0 b1 b2 C z1 ag G ae;clear C;go_upto_region 23 with fail;clear b0 b1 b2 ag G ae z1 E M R' K aR bk;generalize (((cd.setCell ⟨w.heap.size,0,none⟩ (.slice ao Z cap)).setCell ⟨w.heap.size,1,none⟩ (.int .i64 (i8:Nat))).setCell ⟨w.heap.size,2,none⟩ (.int .i64 c8))=aZ at*;clear cp aK;by_cases bJ:c8=0
       ·subst bJ
        rw [if_pos rfl] at aH aJ;obtain ⟨i9,c9,bj,P⟩:∃(xi:Nat) (xc:Int) (xl:List Int),rpt zs (i8,0) p x8=((xi,xc),xl):=⟨_,_,_,rfl⟩;have cV:i9<=8*Z:=by
         have:=QqR (zs:=zs) (all:=p) (r:=(i8,0)) (x:=x8) (by rw [av.u];exact b');rw [P,av.u] at this;exact this
        have cL:bj.length<=800:=by
         have:=QoS zs p (i8,0) x8;rw [P] at this;exact fm
        rw [P] at aH aJ;dsimp only at aH aJ;have cC:=Qe P;clear P;refine dR ?_;intro b0 b1 b2 C z1;clear C;have bX:x8<19:=bw rfl;clear bw;go_wp2_with fail;clear b0 b1 b2 z1;refine Calls.mono (aQ.u _ i8 aa ca p x8 Q z.u b' S.u bb bX dk) ?_;rintro e bC ⟨cK,cD,rfl,ah,hb,cJ⟩;rw [cC.u] at ah ⊢;dsimp only at ah ⊢;have aR:=Qe ah;clear ah cJ;have M:=Qe<|BW.u.grown hb pX
        have R':=Qe<|L.u.grown hb pX
        have K:=Qe<|z.u.grown hb iB (by intro k e;have:=S.u.base k e;omega)
        have aI:Q<=bC.heap.size:=eT;have bk:=Qe<|CD.u.grown hb (fun k e=>by have:=S.u.base k e;omega)
        clear hb BW L z CD S;have E:=Qe<|M.u.set (.slice ao Z cap) (i9:Nat) c9
        refine es ?_;intro BW L z;have CD:=Qe<|bk.u.grown E.u.2 (fun g e=>dJ)
        refine kE ?_;intro S;have cO:Q<=(((bC.setCell ⟨w.heap.size,0,none⟩ (.slice ao Z cap)).setCell ⟨w.heap.size,1,none⟩ (.int .i64 (i9:Nat))).setCell ⟨w.heap.size,2,none⟩ (.int .i64 c9)).heap.size:=Nat.le_trans aI E.u.2.size;clear aI;refine eu ?_;intro b0 b1 b2 C z1 ag G ae;clear C;go_upto_region 25 with fail;clear b0 b1 b2 ag G ae z1 E M R' K bk aR;generalize (((bC.setCell ⟨w.heap.size,0,none⟩ (.slice ao Z cap)).setCell ⟨w.heap.size,1,none⟩ (.int .i64 (i9:Nat))).setCell ⟨w.heap.size,2,none⟩ (.int .i64 c9))=cU at*;obtain ⟨fb,bY⟩:∃fb:Bool,decide (F1+F2+258<bj.length)=fb:=⟨_,rfl⟩;rw [bY] at aH aJ;have cY:decide ((F1:Int)+257+((F2:Int)+1)<(bj.length:Int))=fb:=by rw [<-bY];apply decide_eq_decide.2;omega
        clear bY;obtain ⟨iA,cA,a⟩:=dI (VJ (i9,c9) fb);have cB:iA<=8*Z:=by
         have:=Qbd (i9,c9) fb;rw [a] at this;exact fm
        rw [a] at aH aJ;have m:=Qe a;clear a;refine dR ?_;intro b0 b1 b2 C z1;clear C;go_wp2_with fail;clear b0 b1 b2 z1;refine Calls.mono (Q0 ao Z cap i9 c9 fb _) ?_;rintro e br ⟨rfl,hb⟩;rw [m.u];dsimp only;refine eD ?_;intro M R' K;have aI:Q<=br.heap.size:=eT;have aR:=Qe<|S.u.below hb
        have bk:=Qe<|CD.u.below hb
        clear hb BW L z S CD;have E:=Qe<|M.u.set (.slice ao Z cap) (iA:Nat) cA
        refine es ?_;intro BW L z;refine kE ?_;intro S;have CD:=Qe<|bk.u.grown E.u.2 (fun g e=>dJ)
        have ck:Q<=(((br.setCell ⟨w.heap.size,0,none⟩ (.slice ao Z cap)).setCell ⟨w.heap.size,1,none⟩ (.int .i64 (iA:Nat))).setCell ⟨w.heap.size,2,none⟩ (.int .i64 cA)).heap.size:=Nat.le_trans aI E.u.2.size;clear aI;refine eu ?_;intro b0 b1 b2 C z1 ag G ae;clear C;go_wp2_with fail;clear b0 b1 b2 ag G ae z1 E M R' K aR bk;generalize (((br.setCell ⟨w.heap.size,0,none⟩ (.slice ao Z cap)).setCell ⟨w.heap.size,1,none⟩ (.int .i64 (iA:Nat))).setCell ⟨w.heap.size,2,none⟩ (.int .i64 cA))=bA at*;go_roundg (mu2 (F1+F2+258) (iA,cA) bj)
        case measure=>exact aJ.u
        case rel=>exact ⟨(x8:Nat),iA,cA,cK,cD,bj,rfl,rfl,rfl,cB,(fun _=>aW),cL,BW,L,z,S,ck,CD,aH⟩
       ·rw [if_neg bJ] at aH aJ
        dsimp only at aH aJ;have cM:(c8 == 0)=false:=by simp [bJ]
        refine dR ?_;intro b0 b1 b2 C z1;clear C bJ bw;go_wp2_with fail;clear b0 b1 b2 z1;go_roundg (mu2 (F1+F2+258) (i8,c8) p)
        case measure=>exact aJ.u
        case rel=>exact ⟨(x8:Nat),i8,c8,aa,ca,p,rfl,rfl,rfl,b',(fun _=>aW),T,BW,L,z,S,bb,CD,aH⟩
      ·have ar:=IN.u.le rfl
       have ai:p.length=F1+F2+258:=dk;have bG:=IN.u.eq rfl dk;obtain ⟨l,cG⟩:∃l:Nat,F1+257=l:=⟨_,rfl⟩;obtain ⟨d,bP⟩:∃d:Nat,F2+1=d:=⟨_,rfl⟩;have e5:(F1:Int)+257=(l:Int):=dk;have e6:(F2:Int)+1=(d:Int):=dk;rw [e5,Int.toNat_natCast] at bG;dsimp only at bG;have bS:=Qe bG;clear bG ar IN a9 bh CD;rw [e5,e6];have cz:p.length=l+d:=dk;have cy:257<=l:=dk;have aY:1<=d:=dk;have cI:l<=400:=dk;have cR:d<=400:=dk;obtain ⟨g,rfl,cZ,ad,aT⟩:=S.u.at dk;have aA:dm (Qv wr (some ⟨g,0,none⟩) (p.take l)):=S.u.row.takeN l;have aS:dm (Qv wr (some ⟨g,l,none⟩) (p.drop l)):=S.u.row.dropN l;have bU:(p.take l).length=l:=dS;have bs:(p.drop l).length=p.length-l:=List.length_drop;have ba:=Qe (fun V (hV:Qv V (some ⟨g,0,none⟩) (p.take l))=>Qd4 (some ⟨g,0,none⟩) ca (p.take l) 1 4 4 V hV dk);have a7:=Qe (fun V (hV:Qv V (some ⟨g,l,none⟩) (p.drop l))=>Qd4 (some ⟨g,l,none⟩) (ca-l) (p.drop l) 1 4 5 V hV dk);rw [bU] at ba;rw [bs] at a7;have a5:=S.u.cell (k:=256) dk;obtain ⟨x,hx⟩:=dt (p.getD 256 0);rw [hx] at a5;have aN:dm (chk (p.take l) (p.drop l)↔x≠0/\decide (hk (p.take l)=1\/hk (p.take l)=4\/hk (p.take l)=4)=true/\decide (hk (p.drop l)=1\/hk (p.drop l)=4\/hk (p.drop l)=5)=true):=by
        show _↔_;unfold chk;rw [show (p.take l).getD 256 0=x from by rw [<-hx,List.getD_eq_getElem?_getD,List.getD_eq_getElem?_getD,List.getElem?_take_of_lt dk],decide_eq_true_iff,decide_eq_true_iff,or_self_iff]
       generalize decide (hk (p.take l)=1\/hk (p.take l)=4\/hk (p.take l)=4)=A at*;generalize decide (hk (p.drop l)=1\/hk (p.drop l)=4\/hk (p.drop l)=5)=Bv at*;obtain ⟨C3,s⟩:∃C3:Int,(if x≠0/\A=true/\Bv=true then 0 else 3)=C3:=⟨_,rfl⟩;have aj:dm ((k=1->C3=0/\y=cf.i/\cf.lens=p/\(cf.f 2).toNat=l)/\(k≠1->C3=k)):=by
        by_cases bL:x≠0/\A=true/\Bv=true
        ·rw [if_pos bL] at s
         obtain ⟨k1,k2,k3,k4⟩:=bS.u.1 (aN.u.2 bL);exact ⟨fun _=>⟨s.symm,k2.symm,k3,by rw [k4];omega⟩,fun h=>absurd k1 h⟩
        ·rw [if_neg bL] at s
         have k3:=bS.u.2 (fun h=>bL (aN.u.1 h));exact ⟨fun h=>dk,fun _=>dk⟩
       have ay:=Qe bU;have al:=Qe bs;have h4:¬ca=l:=dk;have U:¬l=ca:=dk;have h6:l<=ca:=dk;have h7:l<=p.length:=dk;have h8:((l:Int)<=(p.length:Int)):=dk;have h9:((l:Int)<=(ca:Int)):=dk;have u:¬((p.length:Int)<(l:Int)+(d:Int)):=dk;have cw:decide ((p.length:Int)<(l:Int)+(d:Int))=false:=decide_eq_false u;have D:(256:Int)<(l:Int):=dk;have aX:¬g=w.heap.size:=dk;have cv:¬g=w.heap.size+1:=dk;have b9:dm (Qdp w.heap.size (some ⟨g,0,none⟩) (some ⟨g,l,none⟩)):=Qo4 dk;have bR:=Qe a8;clear hx bU bs ai cG bP e5 e6 hl S aN bS cz;generalize p.length=n at*;clear aw aq aQ cg cq bp;refine dR ?_;intro b0 b1 b2 C z1;clear C;go_upto_region 28 with fail;go_cut [13] from 15 to 134 (fun v wx=>v=.slice (some ⟨g,0,none⟩) l ca/\wx=wr)
       case first=>
        go_wp2_with fail;go_meet;exact d6
       case rest=>
        obtain ⟨rfl,b5⟩:=hcut;rw [b5];clear b5;go_upto_region 30 with fail;go_cut [13,14] from 116 to 134 (fun v v' wx=>v=.slice (some ⟨g,0,none⟩) l ca/\v'=.slice (some ⟨g,l,none⟩) (n-l) (ca-l)/\dm (L5m wx w.heap.size (.slice ao Z cap) (y:Nat) C3)/\dm (L5m wx (w.heap.size+1) (.slice none 0 0) 0 0)/\dm (Below w.heap.size w wx)/\dm (Qv wx (some ⟨g,0,none⟩) (p.take l))/\dm (Qv wx (some ⟨g,l,none⟩) (p.drop l)))
        case first=>
         by_cases a4:x=0
         ·have aM:(x == 0)=true:=by simp [a4]
          have a3:dm (3=C3):=by show _=_;rw [<-s,if_neg (fun h=>h.1 a4)]
          clear a4 s;first|go_region_with (first|(go_at_call 40;refine Calls.mono (Q0 ao Z cap y 0 true _) ?_;rintro e w9 ⟨rfl,ax⟩;rw [show VJ (y,0) true=(y,3) from rfl];dsimp only;have t:Below wr.heap.size wr w9:=((Below.refl _ _).drew).trans ax;obtain ⟨_,_,_,aF⟩:=BW.u.below t;have:=aF 0;have:=aF 1;have:=aF 2;have:=(BW.u.below t).lt))|fail
          all_goals
           have E:=Qe<|(BW.u.below t).set (.slice ao Z cap) (y:Nat) 3
           have R9:=Qe<|(L.u.below t).grown E.u.2 dr
           have L9:=Qe<|(z.u.trans (t.mono z.u.size)).grown E.u.2 fZ dz
           have bo:=Qe<|(aA.u.below t).grownL E.u.2 du
           have bn:=Qe<|(aS.u.below t).grownL E.u.2 du
           go_wp2_with fail;go_meet;exact ⟨rfl,rfl,a3.u▸E.u.1,R9,L9,bo,bn⟩
         ·have aM:(x == 0)=false:=by simp [a4]
          cases A with
          | false=>
           have a3:dm (3=C3):=by show _=_;rw [<-s,if_neg (fun h=>by cases h.2.1)]
           clear a4 s;first|go_region_with (first|(go_at_call 122;(with_reducible refine Calls.mono (ba.u _ ?_) ?_);exact (aA.u.below ((Below.refl _ _).drew));rintro e bD ⟨rfl,bc⟩;have R:Below wr.heap.size wr bD:=((Below.refl _ _).drew).trans bc;obtain ⟨_,_,_,_⟩:=BW.u.below R;have:=(BW.u.below R).lt)|(go_at_call 40;refine Calls.mono (Q0 ao Z cap y 0 true _) ?_;rintro e w9 ⟨rfl,ax⟩;rw [show VJ (y,0) true=(y,3) from rfl];dsimp only;have t:Below wr.heap.size wr w9:=R.trans (ax.mono R.size);obtain ⟨_,_,_,aF⟩:=BW.u.below t;have:=aF 0;have:=aF 1;have:=aF 2;have:=(BW.u.below t).lt))|fail
           all_goals
            have E:=Qe<|(BW.u.below t).set (.slice ao Z cap) (y:Nat) 3
            have R9:=Qe<|(L.u.below t).grown E.u.2 dr
            have L9:=Qe<|(z.u.trans (t.mono z.u.size)).grown E.u.2 fZ dz
            have bo:=Qe<|(aA.u.below t).grownL E.u.2 du
            have bn:=Qe<|(aS.u.below t).grownL E.u.2 du
            go_wp2_with fail;go_meet;exact ⟨rfl,rfl,a3.u▸E.u.1,R9,L9,bo,bn⟩
          | true=>
           cases Bv with
           | false=>
            have a3:dm (3=C3):=by show _=_;rw [<-s,if_neg (fun h=>by cases h.2.2)]
            clear a4 s;go_region_with (first|(go_at_call 122;(with_reducible refine Calls.mono (ba.u _ ?_) ?_);exact (aA.u.below ((Below.refl _ _).drew));rintro e bD ⟨rfl,bc⟩;have R:Below wr.heap.size wr bD:=((Below.refl _ _).drew).trans bc;obtain ⟨_,_,_,_⟩:=BW.u.below R;have:=(BW.u.below R).lt)|(go_at_call 122;(with_reducible refine Calls.mono (a7.u _ ?_) ?_);exact (aS.u.below R);rintro e bQ ⟨rfl,bB⟩;have a1:Below wr.heap.size wr bQ:=R.trans (bB.mono R.size);obtain ⟨_,_,_,_⟩:=BW.u.below a1;have:=(BW.u.below a1).lt)|(go_at_call 40;refine Calls.mono (Q0 ao Z cap y 0 true _) ?_;rintro e w9 ⟨rfl,ax⟩;rw [show VJ (y,0) true=(y,3) from rfl];dsimp only;have t:Below wr.heap.size wr w9:=a1.trans (ax.mono a1.size);obtain ⟨_,_,_,aF⟩:=BW.u.below t;have:=aF 0;have:=aF 1;have:=aF 2;have:=(BW.u.below t).lt))
            all_goals
             have E:=Qe<|(BW.u.below t).set (.slice ao Z cap) (y:Nat) 3
             have R9:=Qe<|(L.u.below t).grown E.u.2 dr
             have L9:=Qe<|(z.u.trans (t.mono z.u.size)).grown E.u.2 fZ dz
             have bo:=Qe<|(aA.u.below t).grownL E.u.2 du
             have bn:=Qe<|(aS.u.below t).grownL E.u.2 du
             go_wp2_with fail;go_meet;exact ⟨rfl,rfl,a3.u▸E.u.1,R9,L9,bo,bn⟩
           | true=>
            have a3:dm (0=C3):=by show _=_;rw [<-s,if_pos ⟨a4,rfl,rfl⟩]
            clear a4 s;go_region_with (first|(go_at_call 122;(with_reducible refine Calls.mono (ba.u _ ?_) ?_);exact (aA.u.below ((Below.refl _ _).drew));rintro e bD ⟨rfl,bc⟩;have R:Below wr.heap.size wr bD:=((Below.refl _ _).drew).trans bc;obtain ⟨_,_,_,_⟩:=BW.u.below R;have:=(BW.u.below R).lt)|(go_at_call 122;(with_reducible refine Calls.mono (a7.u _ ?_) ?_);exact (aS.u.below R);rintro e bQ ⟨rfl,bB⟩;have a1:Below wr.heap.size wr bQ:=R.trans (bB.mono R.size);obtain ⟨_,_,_,_⟩:=BW.u.below a1;have:=(BW.u.below a1).lt)|(go_at_call 40;refine Calls.mono (Q0 ao Z cap y 0 false _) ?_;rintro e w9 ⟨rfl,ax⟩;rw [show VJ (y,0) false=(y,0) from rfl];dsimp only;have t:Below wr.heap.size wr w9:=a1.trans (ax.mono a1.size);obtain ⟨_,_,_,aF⟩:=BW.u.below t;have:=aF 0;have:=aF 1;have:=aF 2;have:=(BW.u.below t).lt))
            all_goals
             have E:=Qe<|(BW.u.below t).set (.slice ao Z cap) (y:Nat) 0
             have R9:=Qe<|(L.u.below t).grown E.u.2 dr
             have L9:=Qe<|(z.u.trans (t.mono z.u.size)).grown E.u.2 fZ dz
             have bo:=Qe<|(aA.u.below t).grownL E.u.2 du
             have bn:=Qe<|(aS.u.below t).grownL E.u.2 du
             go_wp2_with fail;go_meet;exact ⟨rfl,rfl,a3.u▸E.u.1,R9,L9,bo,bn⟩
        case rest=>
         clear BW L z b0 b1 b2 z1 s ba a7 a5;obtain ⟨rfl,rfl,BW,L,z,RA,RB⟩:=hcut;clear h4 U h6 h7 h8 h9 u cw D aT;generalize n-l=n2 at*;generalize ca-l=c2 at*;have cQ:=Qe<|And.intro aX cv
         refine dR ?_;intro b0 b1 b2 C z1;obtain ⟨r0,r1,r2,rf⟩:=L.u;refine dY ?_;intro aE aC aD;have z2:=L.u.lt;clear C rf;have E:=Qe<|L.u.set (.slice ao Z cap) (y:Nat) C3
         have aU:=Qe<|z.u.grown E.u.2 fY dz
         have cH:=Qe<|RA.u.grownL E.u.2 du
         have cx:=Qe<|RB.u.grownL E.u.2 du
         go_wp2_with fail;obtain ⟨⟨y0,F,y2,_⟩,_⟩:=E.u;exact bodyPost_ret (v:=.tuple #[.agg #[.slice ao Z cap,.int .i64 (y:Nat),.int .i64 C3],.slice (some ⟨g,0,none⟩) l ca,.slice (some ⟨g,l,none⟩) n2 c2]) pY rfl ⟨y,C3,_,l,ca,_,_,_,rfl,(fun h=>by
          obtain ⟨k1,k2,k3,k4⟩:=aj.u.1 h;rw [k3,k4];exact ⟨k1,k2,ay.u.symm,al.u.symm,cH.u,cx.u⟩),aj.u.2,⟨aU.u,bR.u,b9.u⟩⟩
     ·obtain ⟨a2,au⟩:=IN.u.no I
      dsimp only at a2;have az:(c' == 0)=false:=dX;have aO:(c' != 0)=true:=dX;have aj:dm ((k=1->c'=0)/\(k≠1->c'=k)):=⟨fun h=>absurd h au,fun _=>a2⟩;have bm:=Qe au;have b9:dm (Qdp w.heap.size (some ⟨wr.heap.size,0,none⟩) (some ⟨wr.heap.size+1,0,none⟩)):=QnE fY;have bR:=Qe a8;clear a2 au I IN CD S bh a9;refine dR ?_;intro b0 b1 b2 C z1;obtain ⟨r0,r1,r2,rf⟩:=L.u;refine dY ?_;intro aE aC aD;have z2:=L.u.lt;clear C rf;have E:=Qe<|L.u.set (.slice ao Z cap) (y:Nat) c'
      have bV:=fun (V:World)=>((Below.refl V.heap.size V).alloc (Nat.le_refl _) (.cells #[] 2)).alloc dr (.cells #[] 2)
      have Y:=Qe<|E.u.1.below (bV _)
      have cn:=Qe<|z.u.grown E.u.2 fY dz
      have aU:=Qe<|cn.u.trans ((bV _).mono cn.u.size)
      clear bV;go_wp2_with fail;obtain ⟨y0,F,y2,_⟩:=Y.u;exact bodyPost_ret (v:=.tuple #[.agg #[.slice ao Z cap,.int .i64 (y:Nat),.int .i64 c'],.slice (some ⟨wr.heap.size,0,none⟩) 0 0,.slice (some ⟨wr.heap.size+1,0,none⟩) 0 0]) pY rfl ⟨y,c',_,0,0,_,0,0,rfl,(fun h=>absurd h bm.u),aj.u.2,⟨aU.u,bR.u,b9.u⟩⟩
end
end Go.Proofs.YtgginbpmebgkcaaGreatDoor
