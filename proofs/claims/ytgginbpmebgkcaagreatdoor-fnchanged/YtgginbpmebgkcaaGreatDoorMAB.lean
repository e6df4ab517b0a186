import Derived.WalkKit
import Derived.WalkSpells
import Derived.Deep.Draws
import Derived.Test.YtgginbpmebgkcaaGreatDoorMAA
namespace Go.Proofs.YtgginbpmebgkcaaGreatDoor
open Go.RowKit
theorem ir{P:Prop}(h:P:=by
 go_wp2_with (at_builtin;refine wpList_append_lies _ rfl _ _ 70 rfl w.heap.size 2 i0 (.int .i64 0) 1 8 underlying70 hi af ak aq rfl dn (.slice (some ⟨g,0,none⟩) Z.length cap) Z.length (Z.map (Value.int .i64)) rfl (ah.u _ _) ⟨wr.heap.size,0,none⟩ 1 1 [.int .i64 8] rfl rfl HN.u eB dn dy dk du _ rfl ?_)
 intro g4 c4 w4 R Q aa l;have H:w4.ownsRow w.heap.size 2 1 (.slice (some ⟨g4,0,none⟩) (Z++[(8:Int)]).length c4) (Z++[(8:Int)]).length ((Z++[(8:Int)]).map (Value.int .i64)):=by
  exact jf
 rw [show Z.length+1=(Z++[(8:Int)]).length from dr];have U:=Qg H;refine mg ?_;intro F;have c:dm (g4≠w.heap.size+1):=by
  exact mi
 have n:dm (w4.heap[w.heap.size+1]?=some (.cells #[] 2 (0,0))):=by
  show _=_;rw [Q.block (w.heap.size+1) du (fun e=>a (Option.some.inj e).symm)];exact (((Below.refl wr.heap.size wr).alloc (Nat.le_refl _) (.cells #[.int .i64 8] 2)).block (w.heap.size+1) s).trans b.u
 have ar:w.heap.size+1<w4.heap.size:=mj;have y:(Z++[(8:Int)]).length<=288:=mn;have G:dm ((Z++[(8:Int)]).length=k+1):=mq;generalize Z++[(8:Int)]=r at*;exact mr):P:=h
theorem py{P:Prop}(h:P:=by
 obtain ⟨a4,c4,rfl,a2⟩:=QR.of R;rw [VK] at Q;rw [VK,VK] at s;have m:some w.heap.size≠Qt a1:=by
  exact mv
 have au:some (w.heap.size+1)≠Qt a1:=by
  exact mv
 refine po ?_;intro y R4 G4;have K4:dm (∀g,Qt a4=some g->Qt aa=some g\/w.heap.size+2<=g):=by
  exact pt
 exact pv):P:=h
theorem jF{P:Prop}(h:P:=by
 clear u z aw a hd J ag HN O HM P;go_wp2_with fail;refine Calls.mono B.u ?_;rintro e w3 hP;rcases r1 with c'|⟨K,b⟩
 ·obtain ⟨rfl,j,o⟩:=hP.1 c' rfl
  have HF:dm (Qu q p hB zs rdy r (.returned (.tuple #[lnow q rdy c'.st,.nilIface])) w w3):=by
   show Qu _ _ _ _ _ _ _ _ _;rw [<-HR.u];exact Qu.ok rfl j (al.u.trans o)
  clear hP j o HR B;generalize lnow q rdy c'.st=V at*;go_wp2_with fail;exact bodyPost_ret (v:=.tuple #[V,.nilIface]) th rfl HF.u
 ·obtain ⟨V,rfl,j,o⟩:=hP.2 K b rfl
  have HF:dm (Qu q p hB zs rdy r (.returned (.tuple #[V,flt K])) w w3):=by
   show Qu _ _ _ _ _ _ _ _ _;rw [<-HR.u];exact Qu.no j (al.u.trans o)
  clear hP j o HR B;generalize flt K=V2 at*;go_wp2_with fail;exact bodyPost_ret (v:=.tuple #[V,V2]) th rfl HF.u):P:=h
theorem pG{P:Prop}(h:P:=by
 go_wp2_with (at_builtin;refine wpList_append_lies _ rfl _ _ 70 rfl w.heap.size 2 i0 (.int .i64 0) 1 8 underlying70 hi af ak aq rfl dn (.slice (some ⟨g,0,none⟩) Z.length cap) Z.length (Z.map (Value.int .i64)) rfl (ah.u _ _) ⟨wr.heap.size,0,none⟩ 1 1 [.int .i64 9] rfl rfl HN.u eB dn dy dk du _ rfl ?_)
 intro g4 c4 w4 R Q aa l;have H:w4.ownsRow w.heap.size 2 1 (.slice (some ⟨g4,0,none⟩) (Z++[(9:Int)]).length c4) (Z++[(9:Int)]).length ((Z++[(9:Int)]).map (Value.int .i64)):=by
  exact jf
 rw [show Z.length+1=(Z++[(9:Int)]).length from dr];have U:=Qg H;refine mg ?_;intro F;have c:dm (g4≠w.heap.size+1):=by
  exact mi
 have n:dm (w4.heap[w.heap.size+1]?=some (.cells #[] 2 (0,0))):=by
  show _=_;rw [Q.block (w.heap.size+1) du (fun e=>a (Option.some.inj e).symm)];exact (((Below.refl wr.heap.size wr).alloc (Nat.le_refl _) (.cells #[.int .i64 9] 2)).block (w.heap.size+1) s).trans b.u
 have ar:w.heap.size+1<w4.heap.size:=mj;have y:(Z++[(9:Int)]).length<=288:=mn;have G:dm ((Z++[(9:Int)]).length=k+1):=mq;generalize Z++[(9:Int)]=r at*;exact mr):P:=h
theorem pH{P:Prop}(h:P:=by
 go_wp2_with (at_builtin;refine wpList_append_lies _ rfl _ _ 70 rfl w.heap.size 2 i0 (.int .i64 0) 1 8 underlying70 hi af ak aq rfl dn (.slice (some ⟨g,0,none⟩) Z.length cap) Z.length (Z.map (Value.int .i64)) rfl (ah.u _ _) ⟨wr.heap.size,0,none⟩ 1 1 [.int .i64 7] rfl rfl HN.u eB dn dy dk du _ rfl ?_)
 intro g4 c4 w4 R Q aa l;have H:w4.ownsRow w.heap.size 2 1 (.slice (some ⟨g4,0,none⟩) (Z++[(7:Int)]).length c4) (Z++[(7:Int)]).length ((Z++[(7:Int)]).map (Value.int .i64)):=by
  exact jf
 rw [show Z.length+1=(Z++[(7:Int)]).length from dr];have U:=Qg H;refine mg ?_;intro F;have c:dm (g4≠w.heap.size+1):=by
  exact mi
 have n:dm (w4.heap[w.heap.size+1]?=some (.cells #[] 2 (0,0))):=by
  show _=_;rw [Q.block (w.heap.size+1) du (fun e=>a (Option.some.inj e).symm)];exact (((Below.refl wr.heap.size wr).alloc (Nat.le_refl _) (.cells #[.int .i64 7] 2)).block (w.heap.size+1) s).trans b.u
 have ar:w.heap.size+1<w4.heap.size:=mj;have y:(Z++[(7:Int)]).length<=288:=mn;have G:dm ((Z++[(7:Int)]).length=k+1):=mq;generalize Z++[(7:Int)]=r at*;exact mr):P:=h
theorem ks{P:Prop}(h:P:=by
 clear hU r;obtain ⟨r0,r1,r2,rf⟩:=q.u;refine dY ?_;intro aE aC aD;obtain ⟨b0,b1,b2,C⟩:=l.u;clear C rf;have P:=Qe<|q.u.set (.slice ao Z cap) (I:Nat) 0
 refine ig ?_;intro N;have X:=Qe<|K.u.grown P.u.2 (fun g e he=>ij)
 go_wp2_with fail;obtain ⟨⟨y0,F,y2,_⟩,_⟩:=P.u;rw [d.u];exact bodyPost_ret (v:=.tuple #[.agg #[.slice ao Z cap,.int .i64 (I:Nat),.int .i64 0],.slice a1 U.length c1]) ik rfl ⟨a1,c1,rfl,X.u,N.u,fun g e=>orR (b.u g e) (fun h=>dk)⟩):P:=h
theorem ro{P:Prop}(h:P:=by
 have B3:=Qe<|B2.u.trans (r.mono ae)
 clear av r O2 R2 B2;go_wp2_with (at_builtin;refine Qm _ rfl _ _ 22 rfl w.heap.size 5 i0 (.int .u8 0) 1 underlying22 hi af ak aq rfl (.slice a1 L.length c1) L.length (L.map (Value.int .u8)) rfl K.u q c3 P rfl M3.u.row M3.u.nil_len dy dk dk ?_)
 intro v4 w4 f a p;rw [<-List.map_append] at f;obtain ⟨a4,c4,rfl,a2⟩:=Qi.of f;rw [QA] at a;have ar:w3.heap.size<=w4.heap.size:=a.size;have y:=Qe<|B3.u.grown a dk (fun g e=>K.u.base g e)
 have R4:=Qe<|HR.u.beneath y.u ai.u
 have O:(L++P).length<=20100:=kv;obtain ⟨L4,j⟩:=dt (L++P);rw [j] at a2 O ⊢;have G:=Qe j;have Q:=Qe<|Qbt w.heap.size a4 c4 X L4 w4 a2 dk a9 dk
 obtain ⟨B,k⟩:=dt (L4++QI (rb4 X) 4);rw [k] at Q;have T:=Qe k;clear f a p a2 K M3 B3 j k;go_wp2_with fail;refine Calls.mono (AZ.u _ R4.u) ?_;rintro e w5 ⟨rfl,R⟩;obtain rfl:=R.symm;go_wp2_with fail;refine Calls.mono Q.u ?_;rintro e w6 ⟨a6,c6,rfl,C,i,aj,_⟩;have O6:=Qe C;have B6:=Qe<|y.u.trans aj
 clear C i aj Q y R4;have HE:dm (ZC=B):=by
  show _=_;rw [U.u,HL.u,G.u,T.u]
 have hE:=HE.u;subst hE;clear HE U HL G T;go_wp2_with fail;go_ret;exact ⟨a6,c6,rfl,O6.u,B6.u⟩):P:=h
theorem na{P:Prop}(h:P:=by
 have HF:dm (okB zs=false):=aK.u dk;obtain ⟨L,hL⟩:=dt (cells16 (cnt (zs.take k)));have o:=hC.range;have n:=f.there;have m:=Qb5<|cnt (zs.take k)
 have ai:=QaY<|cnt (zs.take k)
 rw [hL] at o m ai;refine js ?_;intro D c g E;refine nb ?_;intro au j a1 r B;clear n hC f hL m ai r g;exact ng):P:=h
theorem nV{P:Prop}(h:P:=by
 refine Calls.mono (HN.u _ hd) ?_;rintro e w2 ⟨rfl,ah⟩;have ae:=hd.trans<|ah.mono hd.size
 have HF:dm (Qu q p hB zs rdy r (.returned (.tuple #[.nilFunc,flt 2])) w w2):=by
  show Qu _ _ _ _ _ _ _ _ _;rw [<-HR.u];exact Qu.no (HM.u.below ae) (QJ.below y ae)
 clear ah ae HR HN hd;go_wp2_with fail;exact bodyPost_ret (v:=.tuple #[.nilFunc,flt 2]) (by simp [results,results211,go_sem,flt]) rfl HF.u):P:=h
theorem lk{P:Prop}(h:P:=by refine iS ?_;intro g;have x:=Qe J;have u:=Qe g1;clear J g1 HN a;go_wp2_with fail;exact bodyPost_ret (v:=.tuple #[.nilFunc,flt 3]) rL rfl ⟨_,⟨⟨_,rfl⟩,rfl⟩,x.u,u.u⟩):P:=h
theorem kP{P:Prop}(h:P:=by go_enter func74,ntmps74;go_wp2_with fail;refine Calls.mono HN.u ?_;rintro e w1 ⟨rfl,P,O⟩;have R1:=Qe P;have u:=Qe O;clear P O HN;go_wp2_with fail;exact bodyPost_ret (v:=.tuple #[.nilFunc,flt 3]) qC rfl ⟨rfl,R1.u,u.u⟩):P:=h
theorem ny{P:Prop}(h:P:=by
 have HA:dm (Qcq (QaA S L X) n 2 0 0):=by
  unfold dm Qcq;rw [t.u,if_neg r,if_pos O];exact ⟨rfl,rfl,rfl⟩
 clear r;obtain ⟨k3,k4⟩:=QaE a.u 2 0 0;refine gJ ?_;intro r0 r1 r2 f0 f1 f2 B;obtain ⟨y0,F,y2,_⟩:=k3;clear k4;go_wp2_with fail;exact bodyPost_ret (v:=.agg #[.int .i64 2,.int .i64 0,.int .i64 0]) gK rfl ⟨⟨2,0,0,rfl,HA.u⟩,B⟩):P:=h
theorem nw{P:Prop}(h:P:=by clear r;obtain ⟨k3,k4⟩:=QaE a.u 0 0 0;refine gJ ?_;intro r0 r1 r2 f0 f1 f2 B;obtain ⟨y0,F,y2,_⟩:=k3;clear k4;go_wp2_with fail;exact bodyPost_ret (v:=.agg #[.int .i64 0,.int .i64 0,.int .i64 0]) gK rfl ⟨⟨0,0,0,rfl,HA.u⟩,B⟩):P:=h
theorem rQ{P:Prop}(h:P:=by
 go_wp2_with fail;refine Calls.mono (HF.u _) ?_;rintro e w1 ⟨rfl,hb⟩;have x:=(b.u.below hb).1;have ay:=Qe<|HT.u w1 x hb
 unfold gF at ay;clear hb HF b k2 k3 k4 k5 k6 T a k9 x HT;go_wp2_with fail;refine Calls.mono ay.u ?_;rintro e w2 ⟨⟨v1,v2,rfl⟩,hΦ⟩;have HP:=Qe hΦ;clear hΦ ay;go_wp2_with fail;exact HP.u):P:=h
theorem jl{P:Prop}(h:P:=by go_wp2_with fail;go_ret2;exact ⟨rfl,(Below.refl _ _).alloc (Nat.le_refl _) _⟩):P:=h
theorem qd{P:Prop}(h:P:=by
 intro v' w1 R Q aa;obtain ⟨l,K,e',ho⟩:=Qi.of R;rw [e'];have hb:=o.u.grown Q du kH;have HO:=Qe<|Qi.mono (B':=w.heap.size) ho dk
 have HB:=Qe hb;clear R Q aa e' ho hb O0 b o;go_wp2_with fail;go_ret;exact ⟨l,K,rfl,HO.u,HB.u⟩):P:=h
theorem jo{P:Prop}(h:P:=by rintro e w1 ⟨rfl,rfl⟩;go_wp2_with fail;go_ret;exact ⟨Qgk HG.u,q,rfl⟩):P:=h
theorem rM{P:Prop}(h:P:=by have u:=Qe g1;have f2:=J.gz.f 10;have j:=l.u.1.gz.c 10 dn;rw [Qaa] at j;clear J g1 HN a;go_wp2_with fail;exact bodyPost_ret (v:=.tuple #[gF 77 z,.nilIface]) rN rfl ⟨_,⟨rfl,rfl⟩,l.u.1,u.u.trans l.u.2⟩):P:=h
theorem qY{P:Prop}(h:P:=by clear J;go_wp2_with fail;obtain ⟨⟨y0,F,y2,_⟩,_⟩:=E.u;exact bodyPost_ret (v:=.tuple #[.agg #[.slice ao Z cap,.int .i64 (T:Nat),.int .i64 cr],.slice a L.length c]) (by simp [results,results83,go_sem,y0,F,y2]) rfl ⟨a,L.length,c,by rw [d.u],D.u⟩):P:=h
theorem ey{P:Prop}(h:P:=by go_wp2_with fail;go_ret;exact ⟨rfl,rfl⟩):P:=h
theorem gf{P:Prop}(h:P:=by go_wp2_with fail;go_ret;exact ⟨QaF HR.u.symm,HL.u⟩):P:=h
theorem fe{P:Prop}(h:P:=by go_wp2_with fail;go_ret;exact ⟨G.u,HB.u⟩):P:=h
theorem nT{P:Prop}(h:P:=by clear R E;go_wp2_with fail;exact bodyPost_ret (v:=.tuple #[.func (Fn.func 211) #[.pointer (some ⟨q,0,none⟩)] #[],.nilIface]) jB rfl HF.u):P:=h
theorem qB{P:Prop}(h:P:=by clear N1 S1 O1 B1 ZC Z2 N2 g1 g2 zz;go_wp2_with fail;go_ret;exact ⟨z,q,p,a1,c1,rfl,I.u,N3.u,S3.u,K.u,Nat.le_of_lt N,D,ab,Z,b.u.1,b.u.2,fun e=>by have:=HL.u z e;omega,B3.u⟩):P:=h
theorem ja{P:Prop}(h:P:=by clear r1 r2 b;go_wp2_with fail;go_ret;exact ⟨QaF HX.u,j.u⟩):P:=h
theorem pf{P:Prop}(h:P:=by go_wp2_with fail;exact bodyPost_ret (v:=.tuple #[.func (Fn.func 152) #[.pointer (some ⟨q,0,none⟩)] #[],.nilIface]) (by simp [results,results148,go_sem]) rfl HF.u):P:=h
theorem pj{P:Prop}(h:P:=by go_enter func122,ntmps122;go_wp2_with fail;refine Calls.mono HK.u ?_;rintro e w1 ⟨rfl,q,rfl⟩;go_wp2_with fail;go_ret;exact ⟨QaF HX.u,Qo _ _ _⟩):P:=h
theorem rS{P:Prop}(h:P:=by have HP:=Qe hΦ;clear hΦ ay;go_wp2_with fail;exact bodyPost_ret (v:=.tuple #[v,.nilIface]) (by simp [results,results216,go_sem]) rfl ⟨v,rfl,HP.u⟩):P:=h
theorem qv{P:Prop}(h:P:=by
 go_region
 go_wp2_with fail;refine ⟨⟨k+1,dk,dw,?_,?_⟩,dM⟩
 ·show BW _ p _
  rw [a8.u];exact a7.u
 ·exact d):P:=h
theorem qh{P:Prop}(h:P:=by have e:zs.take k=zs:=List.take_of_length_le dk;rw [e] at l ⊢;have r:=QcM _ l;clear hr ho;go_wp2_with fail;go_ret;exact ⟨Qd7 r,rfl⟩):P:=h
theorem rr{P:Prop}(h:P:=by
 go_wp2_with fail;go_roundw
 case rel=>exact ⟨k+1,q,a',c',L2,dk,dw,d,dw,rfl,O,a1,z,K,B3⟩
 case measure=>simp [intOf];omega):P:=h
theorem mI{P:Prop}(h:P:=by rintro e w' ⟨rfl,q,rfl⟩;rw [HB.u];go_wp2_with fail;go_ret2;exact ⟨rfl,((Below.refl _ _).alloc (Nat.le_refl _) _).trans (Qo _ _ _)⟩):P:=h
theorem oE{P:Prop}(h:P:=by
 go_wp2_with fail;go_end0;refine ⟨rfl,?_,?_⟩
 ·rw [o.u,HC.u];exact J
 ·exact Qj (Qj (World.grownBy_alloc w _ _) (Qk (Qo _ _ _) _)) h2):P:=h
theorem sq{P:Prop}(h:P:=by go_wp2_with fail;exact bodyPost_ret (v:=.int .i64 2) lM rfl ⟨2,cf,by rw [HC.u],HE.u,U.u,o.u⟩):P:=h
theorem ri{P:Prop}(h:P:=by have t:dm (false=wi x m):=(decide_eq_false dk).symm;exact rh):P:=h
theorem qG{P:Prop}(h:P:=by go_wp2_with fail;exact bodyPost_ret (v:=.tuple #[.nilFunc,flt 5]) qF rfl ⟨rfl,R1.u,u.u⟩):P:=h
theorem rl{P:Prop}(h:P:=by
 clear he HE;go_wp2_with fail;go_roundw
 case rel=>exact ⟨k+1,dk,dw,⟨_,rfl⟩,HN⟩
 case measure=>simp [intOf];omega):P:=h
theorem qg{P:Prop}(h:P:=by
 go_wp2_with fail;go_round
 case rel=>exact ⟨k+1,dk,dw,by rw [HN.u];rfl⟩
 case measure=>simp [intOf];omega):P:=h
theorem jh{P:Prop}(h:P:=by go_wp2_with fail;go_ret;exact ⟨rfl,bc.u⟩):P:=h
theorem mN{P:Prop}(h:P:=by
 have HF:dm (0=hk zs):=by show _=_;rw [hk,HB.u dk];rfl
 go_wp2_with fail;go_ret;exact ⟨Qgk HF.u,q,rfl⟩):P:=h
theorem rj{P:Prop}(h:P:=by go_wp2_with fail;go_ret;exact ⟨QaF t.u,((Below.refl _ _).alloc (Nat.le_refl _) _).trans (aj.mono dr)⟩):P:=h
theorem qe{P:Prop}(h:P:=by
 go_round
 case rel=>exact ⟨m+1,dk,dw,by rw [Crc.halves_succ]⟩
 case measure=>simp [intOf];omega):P:=h
theorem jq{P:Prop}(h:P:=by go_wp2_with fail;go_ret;exact ⟨by rw [<-HE.u];rfl,rfl⟩):P:=h
theorem rt{P:Prop}(h:P:=by have e:k=n:=dk;subst e;go_wp2_with fail;go_ret;have hl:=HL.u;subst hl;exact ⟨a,c,rfl,HO.u,HB.u⟩):P:=h
theorem lp{P:Prop}(h:P:=by go_wp2_with fail;go_ret;exact ⟨rfl,Below.refl _ _⟩):P:=h
theorem lU{P:Prop}(h:P:=by go_wp2_with fail;go_ret;exact ⟨QaF HX.u,E.u⟩):P:=h
theorem rV{P:Prop}(h:P:=by go_ret;exact ⟨⟨_,rfl,by first|exact .inl rfl|exact .inr dk⟩,rfl⟩):P:=h
theorem np{P:Prop}(h:P:=by go_wp2_with fail;go_ret;exact ⟨Qe0.no _ _ _ _ _ ay.u,o.u⟩):P:=h
theorem px{P:Prop}(h:P:=by
 have a8:dm (all++List.replicate (j+1) 0=(all++List.replicate j 0)++[0]):=kp;generalize all++List.replicate j 0=U at*;refine kq ?_;intro an;have HN:=Qe<|Qdz wr (.int .i64 0) 2
 have a0:=q.u.lt;obtain ⟨b0,b1,b2,C⟩:=l.u;clear C;go_wp2_with (at_builtin;refine Vt _ rfl _ _ 70 rfl B 2 i0 (.int .i64 0) 1 8 underlying70 aU af ak aq rfl dn (.slice a1 U.length c1) U.length (U.map (Value.int .i64)) rfl (an.u _ _) ⟨wr.heap.size,0,none⟩ 1 1 [.int .i64 0] rfl rfl HN.u eB dy dk du ?_)
 intro v4 w4 R Q s;rw [show U.map (Value.int .i64)++[Value.int .i64 0]=(U++[0]).map (Value.int .i64) from dr] at R;exact py):P:=h
theorem ng{P:Prop}(h:P:=by
 go_wp2_with (first|(refine wpList_load_mid rfl _ _ rfl _ _ rfl L _ o underlying156 rfl D ?_)|(refine wpList_store_mid rfl _ _ _ rfl w.heap.size 0 L.toArray rfl rfl (by simpa using c) dQ a1.u ?_))
 refine bodyPost_ret (v:=.tuple #[.agg L.toArray,.bool false]) nf rfl ⟨⟨L,?_,au.u,j.u,?_⟩,E.u⟩
 ·rw [HF.u]
 ·intro h;rw [HF.u] at h;cases h):P:=h
theorem mw{P:Prop}(h:P:=by go_wp2_with fail;exact bodyPost_ret (v:=.nilIface) (by simp [results,results215,go_sem]) rfl ⟨⟨(fun _=>rfl),(fun h=>absurd HP.u h)⟩,z.u⟩):P:=h
theorem mr{P:Prop}(h:P:=by clear R H Q aa HN;go_wp2_with fail;exact ⟨⟨k+1,g4,c4,r,dk,dw,rfl,y,G,f,U,c,n,ar,F⟩,dM⟩):P:=h
theorem pv{P:Prop}(h:P:=by
 have O4:=Qe a2;clear R Q s m au a2 an HN b0 b1 b2;go_wp2_with fail;go_roundw
 case rel=>exact ⟨j+1,a4,c4,dk,dw,by rw [a8.u],by rw [a8.u];exact O4,y,R4,G4,K4⟩
 case measure=>simp [intOf];omega):P:=h
theorem mQ{P:Prop}(h:P:=by go_wp2_with fail;refine Calls.mono (a.u _) ?_;rintro e w1 ⟨rfl,rfl⟩;go_wp2_with fail;refine Calls.mono (a.u _) ?_;rintro e w1 ⟨rfl,rfl⟩;go_wp2_with fail;refine Calls.mono (d.u _) ?_;exact jo):P:=h
theorem nU{P:Prop}(h:P:=by unfold flt at HN;clear hr hM hI hA M hX hT hV hrep;go_enter func211,ntmps211;go_wp2_with fail;have hd:Below w.heap.size w w:=Below.refl _ _;exact nV):P:=h
theorem mP{P:Prop}(h:P:=by go_wp2_with fail;refine Calls.mono (a.u _) ?_;rintro e w1 ⟨rfl,rfl⟩;go_wp2_with fail;refine Calls.mono (a.u _) ?_;exact jo):P:=h
theorem jU{P:Prop}(h:P:=by go_enter func197,ntmps197;exact jl):P:=h
theorem rh{P:Prop}(h:P:=by go_enter func22,ntmps22;go_wp2;go_ret;exact ⟨QaF t.u,rfl⟩):P:=h
theorem pR{P:Prop}(h:P:=by go_wp2_with fail;go_ret2;rw [<-HX.u.1,<-HX.u.2];exact d6):P:=h
theorem dD{P:Prop}(h:P:=by kernel_rfl):P:=h
theorem dw{P:Prop}(h:P:=by go_num):P:=h
end Go.Proofs.YtgginbpmebgkcaaGreatDoor
