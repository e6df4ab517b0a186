import Derived.Test.YtgginbpmebgkcaaGreatDoorMBJ
namespace Go.Proofs.YtgginbpmebgkcaaGreatDoor
open Go.RowKit Go.Proofs.Tryz
attribute [local go_sem ↓] Go.wp_at_zero Go.wp_at_succ
set_option linter.unusedVariables false
set_option maxRecDepth 100000
set_option maxHeartbeats 25600000
theorem kV{P:Prop}(h:P:=by
 go_wp2_with fail;refine Calls.mono (a3.u _) ?_;rintro e w8 ⟨rfl,j⟩;have B8:=Qe<|BW.u.below j
 have R8:=Qe<|L.u.below j iB
 have L8:=Qe<|z.u.trans (j.mono z.u.size)
 clear j b0 b1 b2;exact qN):P:=h
theorem qN{P:Prop}(h:P:=by
 have E8:=Qe<|B8.u.set (.slice ao Z cap) (i2:Nat) c2
 have R9:=Qe<|R8.u.far2J E8.u.2 dr
 have L9:=Qe<|L8.u.grown E8.u.2 L8.u.size dz
 obtain ⟨b0,b1,b2,C⟩:=B8.u;refine dA ?_;intro ag G ae;clear C BW L z;go_wp2_with fail;go_meet;exact ⟨rfl,E8.u.1,R9,L9⟩):P:=h
theorem Ql9(ao bo:Option Addr)(cap cb:Nat)(zs d:List Int)(k:Int)(cf:IC)(w:World)(hr:Q1 w ao zs)(hrb:∀ad,ao=some ad->ad.block<w.heap.size)(hz:Qh zs)(hl:zs.length<=65536)(ha:Arg w bo cb d)(hd:Qh d)(hdl:d.length<=65536)(hoct:Qh cf.u)(hA:Vu (szH (hiN zs 2 (0,0) 0).2) zs [] (lastN (szH (hiN zs 2 (0,0) 0).2) (Qa9 zs d)).length k cf 7 (fun _=>True) (zR3 zs d) (lastN (szH (hiN zs 2 (0,0) 0).2) (Qa9 zs d))):
  Calls prog 13 #[.slice ao zs.length cap,.slice bo d.length cb] w fun e w'=>∃(i4:Nat) (c4:Int) (a:Option Addr) (c:Nat) (N:Int),e=.returned (.agg #[.int .i64 (if (Qcm zs (i4,c4) cf.u).2=0 then 1 else (Qcm zs (i4,c4) cf.u).2),.slice a cf.u.length c,.int .i64 N])/\(c4≠0->k=c4/\k≠1)/\(c4=0->k=1/\cf.lc.i=i4)/\Below w.heap.size w w':=by
 have bX:dm (∀W (r:RR) (n:Nat),Below w.heap.size w W->r.1<=8*zs.length->n<=4->Calls prog 39 #[.agg #[.slice ao zs.length cap,.int .i64 (r.1:Nat),.int .i64 r.2],.int .i64 (n:Nat)] W fun e w'=>e=.returned (.tuple #[.agg #[.slice ao zs.length cap,.int .i64 ((hiN zs n r 0).1.1:Nat),.int .i64 (hiN zs n r 0).1.2],.int .i64 ((hiN zs n r 0).2:Nat)])/\Below W.heap.size W w'):=fun W r n hW J h2=>QjZ ao cap zs r.1 n r.2 W (hr.below hW) hz hl J h2
 have aW:dm (∀W,Below w.heap.size w W->Arg W bo cb d):=fun W hW=>ha.below hW
 have O:dm (∀W,Below w.heap.size w W->Calls prog 15 #[.int .u32 1,.slice bo d.length cb] W fun e w'=>e=.returned (.int .u32 (Adl.adl d))/\w'=W):=fun W hW=>QbS bo cb d W (ha.below hW).row hd dk
 have ai:dm (∀W a c,Q1 W a cf.u->cf.u.length<=1000000->Calls prog 15 #[.int .u32 1,.slice a cf.u.length c] W fun e w'=>e=.returned (.int .u32 (Adl.adl cf.u))/\w'=W):=fun W a c J h2=>QbS a c cf.u W J hoct dk
 have u:(hiN zs 2 (0,0) 0).2<65536:=Qn4 2 (0,0) 0 0 dn;have f:dm ((zR2 zs).1<=8*zs.length):=QjX zs;have aQ:dm (∀W a c (D s:Nat),s<=32768->D=(lastN (szH (hiN zs 2 (0,0) 0).2) (Qa9 zs d)).length->s=szH (hiN zs 2 (0,0) 0).2->Below w.heap.size w W->Qi 5 w.heap.size W a c (lastN (szH (hiN zs 2 (0,0) 0).2) (Qa9 zs d))->Calls prog 43 #[.agg #[.slice ao zs.length cap,.int .i64 ((zR3 zs d).1:Nat),.int .i64 (zR3 zs d).2],.agg #[.slice a (lastN (szH (hiN zs 2 (0,0) 0).2) (Qa9 zs d)).length c,.int .i64 (D:Nat),.int .i64 (s:Nat),.int .i64 100000]] W fun e w'=>V8 (.slice ao zs.length cap) (D:Nat) (s:Nat) 100000 w.heap.size a (fun r' all'=>Vu s zs [] D k cf 16 (fun _=>True) r' all') e W w'):=fun W a c D s h0 J h2 hW ho=>by
  subst J;subst h2;exact QdD ao zs.length cap zs rfl (zR3 zs d).1 (zR3 zs d).2 a c _ _ _ 100000 [] (show (100000:Int)=100000-((([]:List Int).length:Nat):Int) from rfl) k cf w.heap.size W (hr.below hW) hrb hz hl ho hW.size h0 fh hA
 obtain ⟨i1,c1,H,e1⟩:=dH (hiN zs 2 (0,0) 0);obtain ⟨i2,c2,e2⟩:=dI (zR2 zs);obtain ⟨i3,c3,R⟩:=dI (zR3 zs d);have ay:dm (∀W,Below w.heap.size w W->Calls prog 39 #[.agg #[.slice ao zs.length cap,.int .i64 0,.int .i64 0],.int .i64 2] W fun e w'=>e=.returned (.tuple #[.agg #[.slice ao zs.length cap,.int .i64 (i1:Nat),.int .i64 c1],.int .i64 (H:Nat)])/\Below W.heap.size W w'):=fun W hW=>by
  have h:=bX.u W (0,0) 2 hW (Nat.zero_le _) dn;rw [e1] at h;exact h
 have a7:dm (VJ (i1,c1) (QiK H)=(i2,c2)):=by
  show _=_;rw [<-e2];unfold zR2;rw [e1]
 have cc:dm (Qe6 H=true->diP d (hiN zs 4 (i2,c2) 0)=(i3,c3)):=fun h=>by
  rw [<-R];unfold zR3;rw [e1,if_pos h,e2]
 have b':dm (Qe6 H=false->i2=i3/\c2=c3):=fun h=>by
  have h2:=R;unfold zR3 at h2;rw [e1,if_neg (by rw [h];decide),e2] at h2;injection h2 with h3 h4;exact ⟨h3,h4⟩
 have c8:dm (Qe6 H=true->Qa9 zs d=d):=fun h=>by unfold Qa9;rw [e1,if_pos h]
 have ch:dm (Qe6 H=false->Qa9 zs d=[]):=fun h=>by unfold Qa9;rw [e1,if_neg (by rw [h];decide)]
 have a0:dm (i2<=8*zs.length):=by have h:=f.u;rw [e2] at h;exact h
 have cw:dm (i3<=8*zs.length):=by have h:=hA.le;rw [R] at h;exact h
 have a6:dm (∀W,Below w.heap.size w W->Calls prog 39 #[.agg #[.slice ao zs.length cap,.int .i64 (i2:Nat),.int .i64 c2],.int .i64 4] W fun e w'=>e=.returned (.tuple #[.agg #[.slice ao zs.length cap,.int .i64 ((hiN zs 4 (i2,c2) 0).1.1:Nat),.int .i64 (hiN zs 4 (i2,c2) 0).1.2],.int .i64 ((hiN zs 4 (i2,c2) 0).2:Nat)])/\Below W.heap.size W w'):=fun W hW=>bX.u W (i2,c2) 4 hW a0.u dn
 rw [e1,R] at aQ;rw [e1] at u;dsimp only at aQ u;obtain ⟨U,hU⟩:=dt (Qa9 zs d);rw [hU] at aQ c8 ch;have aa:=QnV u;obtain ⟨S,hS⟩:=dt (szH H);rw [hS] at aQ aa;have HS:=Qe hS;have da:U.length<=65536:=by
  rw [<-hU];unfold Qa9;split
  ·exact hdl
  ·simp
 have ak:dm (∀W b c,Arg W b c U->Calls prog 42 #[.int .i64 (S:Nat),.slice b U.length c,.int .i64 100000] W fun e w'=>∃a c,e=.returned (.agg #[.slice a (lastN S U).length c,.int .i64 ((lastN S U).length:Nat),.int .i64 (S:Nat),.int .i64 100000])/\Qi 5 W.heap.size w' a c (lastN S U)/\Below W.heap.size W w'):=fun W b c h=>Qeu 100000 S U b c W h aa.1 aa.2 dk
 have HX:dm ((lastN S U).length<=32768):=by show _<=_;rw [QC];omega
 generalize M:lastN S U=X at*;have bm:dm (∀(i4:Nat) (c4:Int),i4<=8*zs.length->∀W,Below w.heap.size w W->Calls prog 39 #[.agg #[.slice ao zs.length cap,.int .i64 ((alP (i4,c4)).1:Nat),.int .i64 (alP (i4,c4)).2],.int .i64 4] W fun e w'=>e=.returned (.tuple #[.agg #[.slice ao zs.length cap,.int .i64 ((hiN zs 4 (alP (i4,c4)) 0).1.1:Nat),.int .i64 (hiN zs 4 (alP (i4,c4)) 0).1.2],.int .i64 ((hiN zs 4 (alP (i4,c4)) 0).2:Nat)])/\Below W.heap.size W w'):=fun i4 c4 h W hW=>bX.u W (alP (i4,c4)) 4 hW (by unfold alP;split<;>(dsimp only;omega)) dn
 clear hr hrb hz ha hd hoct hA e1 e2 R hU M hS f bX;generalize hZ:zs.length=Z at*;have av:=Qe hZ;clear hZ;have R6:dm (QcQ ((w.alloc (.cells #[.int .i64 0,.slice none 0 0,.int .i64 0] 32)).alloc (.cells #[.slice ao Z cap,.int .i64 0,.int .i64 0] 85)) w.heap.size (.int .i64 0) (.slice none 0 0) (.int .i64 0)):=(Qdr w (.int .i64 0) (.slice none 0 0) (.int .i64 0) 32).below (B:=w.heap.size+1) ((Below.refl _ _).alloc dr _) dk;have B6:dm (L5m ((w.alloc (.cells #[.int .i64 0,.slice none 0 0,.int .i64 0] 32)).alloc (.cells #[.slice ao Z cap,.int .i64 0,.int .i64 0] 85)) (w.heap.size+1) (.slice ao Z cap) 0 0):=by
  have h:=VI (w.alloc (.cells #[.int .i64 0,.slice none 0 0,.int .i64 0] 32)) (.slice ao Z cap) 0 0 85;exact jN
 have L6:dm (Below w.heap.size w ((w.alloc (.cells #[.int .i64 0,.slice none 0 0,.int .i64 0] 32)).alloc (.cells #[.slice ao Z cap,.int .i64 0,.int .i64 0] 85))):=((Below.refl _ _).alloc (Nat.le_refl _) _).alloc dr _;have aY:decide ((Z:Int) > 65536)=false:=decide_eq_false dk;go_enter func13,ntmps13;go_upto_region 7 with fail;generalize (w.alloc (.cells #[.int .i64 0,.slice none 0 0,.int .i64 0] 32)).alloc (.cells #[.slice ao Z cap,.int .i64 0,.int .i64 0] 85)=W6 at*;have TK:=Qe<|ay.u W6 L6.u
 obtain ⟨b0,b1,b2,_⟩:=B6.u;have zb:=B6.u.lt;clear ay;go_wp2_with fail;refine Calls.mono TK.u ?_;rintro e w7 ⟨rfl,aA⟩;have ar:w.heap.size<=W6.heap.size:=L6.u.size;have B7:=Qe<|B6.u.below aA
 have R7:=Qe<|R6.u.below aA dk
 have L7:=Qe<|L6.u.trans (aA.mono ar)
 clear aA TK B6 R6 L6 b0 b1 b2 zb ar;have E7:=Qe<|B7.u.set (.slice ao Z cap) (i1:Nat) c1
 have BW:=Qe E7.u.1;have L:=Qe<|R7.u.far2J E7.u.2 dr
 have z:=Qe<|L7.u.grown E7.u.2 L7.u.size dz
 obtain ⟨b0,b1,b2,C⟩:=B7.u;refine dA ?_;intro ag G ae;clear C;go_upto_region 8 with fail;clear b0 b1 b2 ag G ae B7 R7 L7 E7;generalize ((w7.setCell ⟨w.heap.size+1,0,none⟩ (.slice ao Z cap)).setCell ⟨w.heap.size+1,1,none⟩ (.int .i64 (i1:Nat))).setCell ⟨w.heap.size+1,2,none⟩ (.int .i64 c1)=W7 at*;go_cut [5] from 24 to 110 (fun x wx=>x=.int .i64 (H:Nat)/\dm (L5m wx (w.heap.size+1) (.slice ao Z cap) (i2:Nat) c2)/\dm (QcQ wx w.heap.size (.int .i64 0) (.slice none 0 0) (.int .i64 0))/\dm (Below w.heap.size w wx))
 case first=>
  have a3:dm (∀W,Calls prog 40 #[.agg #[.slice ao Z cap,.int .i64 (i1:Nat),.int .i64 c1],.bool (QiK H)] W fun e w'=>e=.returned (.agg #[.slice ao Z cap,.int .i64 (i2:Nat),.int .i64 c2])/\Below W.heap.size W w'):=fun W=>by have h:=Q0 ao Z cap i1 c1 (QiK H) W;rw [a7.u] at h;exact h
  obtain ⟨Q,hQ⟩:=dt (H/256);obtain ⟨T,hT⟩:=dt (H/4096);have cN:(H:Int)/256=(Q:Int):=dk;have cM:(H:Int)/4096=(T:Int):=dk;have a1:QiK H=decide (H%31≠0\/Q%16≠8\/7<T):=by unfold QiK;rw [hQ,hT]
  obtain ⟨b0,b1,b2,_⟩:=BW.u;have zb:=BW.u.lt;clear hQ hT a7;by_cases k1:H%31=0
  ·by_cases k2:Q%16=8
   ·by_cases k3:7<T
    ·rw [a1,decide_eq_true (.inr (.inr k3))] at a3
     have d1:((H:Int)%31 != 0)=false:=du;have d2:((Q:Int)%16 != 8)=false:=du;have d3:decide ((T:Int) > 7)=true:=decide_eq_true dk;clear a1 k1 k2 k3;go_wp2_with fail;refine Calls.mono (a3.u _) ?_;rintro e w8 ⟨rfl,j⟩;have B8:=Qe<|BW.u.below j
     have R8:=Qe<|L.u.below j iB
     have L8:=Qe<|z.u.trans (j.mono z.u.size)
     clear j b0 b1 b2 zb;exact qN
    ·rw [a1,decide_eq_false dk] at a3
     have d1:((H:Int)%31 != 0)=false:=du;have d2:((Q:Int)%16 != 8)=false:=du;have d3:decide ((T:Int) > 7)=false:=decide_eq_false dk;clear a1 k1 k2 k3;exact kV
   ·rw [a1,decide_eq_true (.inr (.inl k2))] at a3
    have d1:((H:Int)%31 != 0)=false:=du;have d2:((Q:Int)%16 != 8)=true:=du;clear a1 k1 k2;exact kV
  ·rw [a1,decide_eq_true (.inl k1)] at a3
   have d1:((H:Int)%31 != 0)=true:=du;clear a1 k1;exact kV
 case rest=>
  clear BW L z a7;obtain ⟨rfl,BW,L,z⟩:=hcut;obtain ⟨T,hT⟩:=dt (H/4096);have cM:(H:Int)/4096=(T:Int):=dk;have cg:dm ((if T<=7 then 2^(T+8) else 32768)=S):=by have h:=HS.u;unfold szH at h;rw [hT] at h;exact h
  clear hT;obtain ⟨bT,ab⟩:=dt (decide ((T:Int)<=7));go_upto_if 42 with fail;go_cut [9] from 40 to 110 (fun x wx=>x=.int .i64 (S:Nat)/\dm (L5m wx (w.heap.size+1) (.slice ao Z cap) (i2:Nat) c2)/\dm (QcQ wx w.heap.size (.int .i64 0) (.slice none 0 0) (.int .i64 0))/\dm (Below w.heap.size w wx))
  case first=>
   have bl:=cg.u;clear aa u;cases bT with
   | true=>
    have k1:T<=7:=by have:=of_decide_eq_true ab;omega
    rw [if_pos k1] at bl;have PW:=Qe (fun W=>QaN (T+8) S dk bl W);have cG:((T+8:Nat):Int)=(T:Int)+8:=dk;rw [cG] at PW;clear bl cG ab;go_wp2_with fail;refine Calls.mono (PW.u _) ?_;rintro e w9 ⟨rfl,rfl⟩;go_wp2_with fail;go_meet;exact ⟨rfl,BW,L,z⟩
   | false=>
    have k1:¬T<=7:=by have:=of_decide_eq_false ab;omega
    rw [if_neg k1] at bl;have ba:dm ((32768:Int)=(S:Nat)):=by show _=_;omega
    clear bl ab k1;go_wp2_with fail;go_meet;exact ⟨by rw [ba.u],BW,L,z⟩
  case rest=>
   clear BW L z cg ab cM;obtain ⟨rfl,BW,L,z⟩:=hcut;have be:Below wc.heap.size wc (wc.alloc (.cells #[] 5)):=(Below.refl _ _).alloc (Nat.le_refl _) _;have b9:w.heap.size<=wc.heap.size:=z.u.size;have l:=Qe<|BW.u.below be
   have q:=Qe<|L.u.below be iB
   have LX:=Qe<|z.u.trans (be.mono b9)
   have AE:dm (Arg (wc.alloc (.cells #[] 5)) (some ⟨wc.heap.size,0,none⟩) 0 []):=⟨Q1.nil _ _,Nat.le_refl _,dy,fun ad e=>by cases e;simp,fun e=>dx⟩;clear be BW L z;go_upto_region 13 with fail;obtain ⟨cU,bZ⟩:=dt wc.heap.size;rw [bZ] at AE b9 ⊢;generalize wc.alloc (.cells #[] 5)=aZ at*;clear bZ;obtain ⟨V5,a8⟩:=dt (H/32);have cW:(H:Int)/32=(V5:Int):=dk;obtain ⟨V,hV⟩:=dt (V5%2);have cZ:(V5:Int)%2=(V:Int):=dk;have cj:dm (Qe6 H=decide (V=1)):=by show _=_;unfold Qe6;rw [a8,hV]
   obtain ⟨bV,A⟩:=dt (((V:Int) == 1));clear a8 hV;go_upto_if 51 with fail;go_cut [6,10] from 48 to 110 (fun _ y wx=>∃(bu:Option Addr) (cu:Nat),y=.slice bu U.length cu/\dm (Arg wx bu cu U)/\dm (L5m wx (w.heap.size+1) (.slice ao Z cap) (i3:Nat) c3)/\dm (QcQ wx w.heap.size (.int .i64 0) (.slice none 0 0) (.int .i64 0))/\dm (Below w.heap.size w wx))
   case first=>
    cases bV with
    | false=>
     have I:Qe6 H=false:=by rw [cj.u];have:=A;simp at this;exact decide_eq_false dk
     obtain ⟨rfl,rfl⟩:=b'.u I;have bG:=ch.u I;have cD:=Qe bG;clear I bG A;go_wp2_with fail;go_meet;exact ⟨some ⟨cU,0,none⟩,0,by rw [cD.u];rfl,by rw [cD.u];exact AE,l,q,LX⟩
    | true=>
     have I:Qe6 H=true:=by rw [cj.u];have:=A;simp at this;exact decide_eq_true dk
     have bG:=c8.u I;obtain ⟨j3,q3,ID,ht⟩:=dH (hiN zs 4 (i2,c2) 0);have h3:=cc.u I;rw [ht] at h3;have bJ:dm ((q3=0/\(d=[]\/Adl.adl d≠(ID:Int))->j3=i3/\5=c3)/\(¬(q3=0/\(d=[]\/Adl.adl d≠(ID:Int)))->j3=i3/\q3=c3)):=by
      unfold diP at h3;refine ⟨fun h=>?_,fun h=>?_⟩
      ·rw [if_pos h] at h3
       injection h3 with h4 h5;exact ⟨h4,h5⟩
      ·rw [if_neg h] at h3
       injection h3 with h4 h5;exact ⟨h4,h5⟩
     have TK:=Qe<|a6.u aZ LX.u
     rw [ht] at TK;dsimp only at TK;have cQ:=bG.symm;subst cQ;clear I ht h3 A a6 bG;obtain ⟨b0,b1,b2,_⟩:=l.u;have zb:=l.u.lt;go_wp2_with fail;refine Calls.mono TK.u ?_;rintro e br ⟨rfl,aI⟩;have cx:=Qe<|l.u.below aI
     have cE:=Qe<|q.u.below aI (by have:=l.u.lt;omega)
     have cp:=Qe<|LX.u.trans (aI.mono LX.u.size)
     clear aI b0 b1 b2 zb;have bH:=Qe<|cx.u.set (.slice ao Z cap) (j3:Nat) q3
     have BY:=Qe bH.u.1;have RY:=Qe<|cE.u.far2J bH.u.2 dr
     have LY:=Qe<|cp.u.grown bH.u.2 cp.u.size dz
     obtain ⟨b0,b1,b2,C⟩:=cx.u;refine dA ?_;intro ag G ae;clear C l q LX;go_upto_region 15 with fail;clear b0 b1 b2 ag G ae cx cE cp bH;generalize ((br.setCell ⟨w.heap.size+1,0,none⟩ (.slice ao Z cap)).setCell ⟨w.heap.size+1,1,none⟩ (.int .i64 (j3:Nat))).setCell ⟨w.heap.size+1,2,none⟩ (.int .i64 q3)=bA at*;have AD:=Qe<|O.u bA LY.u
     have AR:=Qe<|aW.u bA LY.u
     obtain ⟨Y,hY⟩:∃Y:Nat,Adl.adl d=(Y:Int):=⟨(Adl.adl d).toNat,kS⟩;have bw:Y<4294967296:=kS;rw [hY] at AD;have HY:=Qe hY;clear hY;obtain ⟨b0,b1,b2,C⟩:=BY.u;have ae:=C 2;clear C;by_cases hq:q3=0
     ·subst hq
      by_cases bj:d=[]
      ·have bc:=bJ.u.1 ⟨rfl,.inl bj⟩
       obtain ⟨rfl,rfl⟩:=bc;have cd:((d.length:Int) == 0)=true:=by rw [bj];rfl
       refine qO ?_;intro cz cq aU cv;clear bj;go_wp2_with fail;go_meet;exact ⟨bo,cb,rfl,cv,cz,cq,aU⟩
      ·have cd:((d.length:Int) == 0)=false:=by
        simp;omega
       by_cases bk:(Y:Int)=(ID:Nat)
       ·obtain ⟨rfl,rfl⟩:=bJ.u.2 (fun h=>by
         rcases h.2 with h|h
         ·exact bj h
         ·exact h (HY.u.trans bk))
        have an:((Y:Int) != (ID:Nat))=false:=by simpa using bk
        clear bj bk;go_wp2_with fail;refine Calls.mono AD.u ?_;rintro e cn ⟨rfl,af⟩;obtain rfl:=af.symm;go_wp2_with fail;go_meet;exact ⟨bo,cb,rfl,AR,BY,RY,LY⟩
       ·have bc:=bJ.u.1 ⟨rfl,.inr (fun h=>bk (HY.u.symm.trans h))⟩
        obtain ⟨rfl,rfl⟩:=bc;have an:((Y:Int) != (ID:Nat))=true:=by simpa using bk
        refine qO ?_;intro cz cq aU cv;clear bj bk;go_wp2_with fail;refine Calls.mono AD.u ?_;rintro e cn ⟨rfl,af⟩;obtain rfl:=af.symm;go_wp2_with fail;go_meet;exact ⟨bo,cb,rfl,cv,cz,cq,aU⟩
     ·obtain ⟨rfl,rfl⟩:=bJ.u.2 (fun h=>hq h.1)
      have ah:(q3 == 0)=false:=by simp [hq]
      clear hq;go_wp2_with fail;go_meet;exact ⟨bo,cb,rfl,AR,BY,RY,LY⟩
   case rest=>
    clear l q LX;obtain ⟨bu,cu,rfl,AU,BW,L,z⟩:=hcut;have ST:=Qe<|ak.u wc bu cu AU.u
    have cY:w.heap.size+1<wc.heap.size:=BW.u.lt;clear ak AU aW O c8 ch cc b' a6 AE cj;go_wp2_with fail;refine Calls.mono ST.u ?_;rintro e aT ⟨a,c,rfl,ho,aR⟩;have bQ:wc.heap.size<=aT.heap.size:=aR.size;have ab:Below aT.heap.size aT (aT.alloc (.cells #[.slice a X.length c,.int .i64 (X.length:Nat),.int .i64 (S:Nat),.int .i64 100000] 91)):=(Below.refl _ _).alloc (Nat.le_refl _) _;have b5:=Qe<|QkV aT (.slice a X.length c) (X.length:Nat) (S:Nat) 100000 91
    have l:=Qe<|(BW.u.below aR).below ab
    have q:=Qe<|(L.u.below aR dk).below ab dk
    have cm:=z.u.trans<|aR.mono z.u.size
    have LX:=Qe<|cm.trans (ab.mono cm.size)
    have K:=Qe<|Qi.below ho ab
    have bq:=Qe<|Qi.lower2 ho
    clear ho aR ab cm BW L z ST;go_upto_region 19 with fail;obtain ⟨a9,ca⟩:=dt aT.heap.size;rw [ca] at b5 bq bQ ⊢;generalize aT.alloc (.cells #[.slice a X.length c,.int .i64 (X.length:Nat),.int .i64 (S:Nat),.int .i64 100000] 91)=cJ at*;clear ca;have BL:=Qe<|aQ.u cJ a c X.length S aa.2 rfl rfl LX.u (K.u.mono dk)
    have m:=Qe<|Qi.based K.u
    obtain ⟨D,hD⟩:=dt X.length;rw [hD] at BL b5 HX ⊢;obtain ⟨b0,b1,b2,_⟩:=l.u;have zb:=l.u.lt;obtain ⟨t0,t1,t2,t3,_⟩:=b5.u;have zt:a9<cJ.heap.size:=World.block_lt_of_cell? _ _ b5.u.c0;clear aQ hD;go_wp2_with fail;refine Calls.mono BL.u ?_;rintro e bO ⟨i4,c4,a4,n4,al,rfl,b6,aS,bx,aj⟩;obtain ⟨aG,bc,a'⟩:=aj.ended;have au:=Qe aj.len;have aJ:dm (i4<=8*Z):=by have h:=aj.le;rw [av.u] at h;exact h
    have bb:dm (cf.u=al.drop D):=aG;have aK:dm (c4≠0->k=c4/\k≠1):=fun h=>⟨(aj.no h).1.symm,(aj.no h).2.1⟩
    have aV:dm (c4=0->k=1/\cf.lc.i=i4):=fun h=>by
     exact qP
    have c9:=Qe<|l.u.grown aS (fun e=>eF)
    have cH:=Qe<|q.u.far2J aS (fun e=>eF)
    have bK:=Qe<|b5.u.far aS (fun e=>by have:=bq.u _ e.symm;omega)
    have cA:=Qe<|LX.u.grown aS LX.u.size (fun k e=>by have:=m.u k e;omega)
    have bB:=Qe b6.mine;have b4:dm (∀g,Qt a4=some g->g≠w.heap.size/\g≠w.heap.size+1/\g≠a9):=fun g e=>by
     rcases bx g e with h|h
     ·have J:=m.u g h;have h2:=bq.u g h;exact ⟨dk,dk,dk⟩
     ·exact ⟨dk,dk,dk⟩
    clear aj aG bc a' aS bx b6 l q b5 LX K m bq b0 b1 b2 t0 t1 t2 t3 zb BL;have bd:=Qe<|c9.u.set (.slice ao Z cap) (i4:Nat) c4
    have bE:=Qe<|(bK.u.far bd.u.2 du).set (.slice a4 al.length n4) (D:Nat) (S:Nat) 100000
    have bs:=Qac (((bO.setCell ⟨w.heap.size+1,0,none⟩ (.slice ao Z cap)).setCell ⟨w.heap.size+1,1,none⟩ (.int .i64 (i4:Nat))).setCell ⟨w.heap.size+1,2,none⟩ (.int .i64 c4)) a9 (.slice a4 al.length n4) (D:Nat) (S:Nat) 100000;have bY:=Qe<|bd.u.1.grown bs du
    have cl:=Qe<|(cH.u.far2J bd.u.2 dr).far2J bs du
    have bF:=cA.u.grown bd.u.2 cA.u.size dz;have bN:=Qe<|bF.grown bs bF.size dz
    have bn:=Qe<|(bB.u.grown bd.u.2 (fun k e e2=>by simp at e;have:=(b4.u k e2).2.1;omega)).grown bs (fun k e e2=>by simp at e;have:=(b4.u k e2).2.2;omega)
    have TF:=Qe<|bK.u.far bd.u.2 du
    obtain ⟨b0,b1,b2,C⟩:=c9.u;refine dA ?_;intro ag G ae;obtain ⟨t0,t1,t2,t3,P⟩:=TF.u;refine eE ?_;intro aH aN aM aP;clear C P bF bs;unfold wT at bE bY cl bN bn;go_upto_region 20 with fail;clear b0 b1 b2 ag G ae t0 t1 t2 t3 aH aN aM aP TF bd c9 cH bK cA bB;generalize ((((((bO.setCell ⟨w.heap.size+1,0,none⟩ (.slice ao Z cap)).setCell ⟨w.heap.size+1,1,none⟩ (.int .i64 (i4:Nat))).setCell ⟨w.heap.size+1,2,none⟩ (.int .i64 c4)).setCell ⟨a9,0,none⟩ (.slice a4 al.length n4)).setCell ⟨a9,1,none⟩ (.int .i64 (D:Nat))).setCell ⟨a9,2,none⟩ (.int .i64 (S:Nat))).setCell ⟨a9,3,none⟩ (.int .i64 100000)=bL at*;have cX:w.heap.size+1<bL.heap.size:=bY.u.lt;have cy:dm (al.length<=200000):=by have h:=au.u;have:=HX.u;show _<=_;simp at h;omega
    have b8:=Qe<|Qg1 a4 n4 al D S 100000 bL bn.u.row bn.u.fits bn.u.most bn.u.bare au.u.1 cy.u
    rw [<-bb.u] at b8;obtain ⟨t0,t1,t2,t3,_⟩:=bE.u;clear bn;go_wp2_with fail;refine Calls.mono b8.u ?_;rintro e cS ⟨aO,cO,rfl,bP,bC⟩;have bt:=Qe<|bY.u.below bC
    have ct:=Qe<|cl.u.below bC dk
    have bM:=Qe<|bN.u.trans (bC.mono bN.u.size)
    have MO:=Qe bP.mine;clear bP bC b8 bY cl bN bE t0 t1 t2 t3;have aL:i4<=1000000:=by have:=aJ.u;omega
    have AL:=Qe (fun W=>Qdb ao Z cap i4 c4 W aL);have TL:=Qe<|bm.u i4 c4 aJ.u
    obtain ⟨i6,c6,SM,ht⟩:=dH (hiN zs 4 (alP (i4,c4)) 0);rw [ht] at TL;have b7:dm (Qcm zs (i4,c4) cf.u=suP (i6,c6) (decide ((SM:Int)≠Adl.adl cf.u))):=by show _=_;unfold Qcm;rw [ht]
    have bp:dm (i6<=8*Z):=by
     have h:=QjU (zs:=zs) 4 (alP (i4,c4)) 0 (by have:=aJ.u;have:=av.u;unfold alP;split<;>(dsimp only;omega));rw [ht,av.u] at h;exact h
    dsimp only at TL;generalize (alP (i4,c4)).1=i5 at*;generalize (alP (i4,c4)).2=c5 at*;clear bm ht;go_upto_region 21 with fail;go_cut [7] from 13 to 110 (fun x wx=>x=.int .i64 (SM:Nat)/\dm (L5m wx (w.heap.size+1) (.slice ao Z cap) (i6:Nat) c6)/\dm (QcQ wx w.heap.size (.int .i64 0) (.slice none 0 0) (.int .i64 0))/\dm (Below w.heap.size w wx)/\dm (Qah bL.heap.size wx aO cO cf.u))
    case first=>
     obtain ⟨b0,b1,b2,_⟩:=bt.u;have zb:=bt.u.lt;go_wp2_with fail;refine Calls.mono (AL.u _) ?_;rintro e db ⟨rfl,o⟩;have ck:=Qe<|bt.u.below o
     have cL:=Qe<|ct.u.below o dk
     have bW:=Qe<|bM.u.trans (o.mono bM.u.size)
     have cK:=Qe<|MO.u.below o
     clear o AL bt ct bM MO b0 b1 b2 zb;go_wp2_with fail;refine Calls.mono (TL.u _ bW.u) ?_;rintro e c' ⟨rfl,aq⟩;have cI:=Qe<|ck.u.below aq
     have cV:=Qe<|cL.u.below aq (by have:=ck.u.lt;omega)
     have cF:=Qe<|bW.u.trans (aq.mono bW.u.size)
     have cB:=Qe<|cK.u.below aq
     clear aq TL ck cL bW cK;have bU:=Qe<|cI.u.set (.slice ao Z cap) (i6:Nat) c6
     have BW:=Qe bU.u.1;have L:=Qe<|cV.u.far2J bU.u.2 dr
     have z:=Qe<|cF.u.grown bU.u.2 cF.u.size dz
     have MW:=Qe<|cB.u.grown bU.u.2 (fun k e e2=>by simp at e;subst e;exact cB.u.far dk e2)
     obtain ⟨b0,b1,b2,C⟩:=cI.u;refine dA ?_;intro ag G ae;clear C;go_wp2_with fail;go_meet;exact ⟨rfl,BW,L,z,MW⟩
    case rest=>
    clear bt ct bM MO AL TL;obtain ⟨rfl,BW,L,z,MW⟩:=hcut;obtain ⟨bD,b3⟩:=dt wc;rw [b3] at BW L z MW ⊢;clear b3;have a5:cf.u.length<=1000000:=by rw [bb.u,List.length_drop];have:=cy.u;omega
    have cC:dm (∀W,Below bD.heap.size bD W->Calls prog 15 #[.int .u32 1,.slice aO cf.u.length cO] W fun e w'=>e=.returned (.int .u32 (Adl.adl cf.u))/\w'=W):=fun W hW=>ai.u W aO cO (MW.u.row.below hW) a5
    obtain ⟨Y,hY⟩:∃Y:Nat,Adl.adl cf.u=(Y:Int):=⟨(Adl.adl cf.u).toNat,by have:=QcC cf.u;omega⟩;have bw:Y<4294967296:=by have:=QcC cf.u;omega
    rw [hY] at cC b7;obtain ⟨bS,aw⟩:=dt (((SM:Int) != (Y:Int)));have bR:IntKind.i64.wrap (Y:Int)=(Y:Int):=iJ;obtain ⟨i7,c7,h7⟩:=dI (suP (i6,c6) bS);rw [<-Qpp,aw,h7] at b7;have SU:dm (∀W,Calls prog 46 #[.agg #[.slice ao Z cap,.int .i64 (i6:Nat),.int .i64 c6],.bool bS] W fun e w'=>e=.returned (.agg #[.slice ao Z cap,.int .i64 (i7:Nat),.int .i64 c7])/\Below W.heap.size W w'):=fun W=>by have h:=QcD ao Z cap i6 c6 bS W;rw [h7] at h;exact h
    have bz:dm (i7=i6):=by have h:=h7;unfold suP at h;split at h<;>(injection h with h _;exact h.symm)
    clear hY h7 ai;go_upto_region 22 with fail;go_cut [7] from 13 to 110 (fun x wx=>x=.int .i64 (SM:Nat)/\dm (L5m wx (w.heap.size+1) (.slice ao Z cap) (i7:Nat) c7)/\dm (QcQ wx w.heap.size (.int .i64 0) (.slice none 0 0) (.int .i64 0))/\dm (Below w.heap.size w wx))
    case first=>
     obtain ⟨b0,b1,b2,_⟩:=BW.u;have zb:=BW.u.lt;clear bb aK aV au aJ b4 cy b7 bz bp MW av hdl aL a5;go_region_with (first|(go_at_call 15;with_reducible refine Calls.mono (cC.u _ fv) ?_;rintro e wk ⟨rfl,rfl⟩)|(go_at_call 46;refine Calls.mono (SU.u _) ?_;rintro e w9 ⟨rfl,ax⟩;have t:Below bD.heap.size bD w9:=qQ;obtain ⟨_,_,_,aF⟩:=BW.u.below t))
     all_goals
      have E:=Qe<|(BW.u.below t).set (.slice ao Z cap) (i7:Nat) c7
      have R9:=Qe<|(L.u.below t dk).far2J E.u.2 dr
      have aB:=z.u.trans<|t.mono z.u.size
      have L9:=Qe<|aB.grown E.u.2 aB.size dz
      clear b0 b1 b2 zb aB;go_wp2_with fail;go_meet;exact ⟨rfl,E.u.1,R9,L9⟩
    case rest=>
     clear BW L z;obtain ⟨rfl,BW,L,z⟩:=hcut;obtain ⟨b0,b1,b2,_⟩:=BW.u;obtain ⟨r0,r1,r2,rf⟩:=L.u;refine dY ?_;intro aE aC aD;clear rf;obtain ⟨N0,a2⟩:=dt cf.u.length;have aX:=Qe a2;rw [a2];by_cases bI:c7=0
     ·subst bI
      obtain ⟨U8,cP⟩:=dt (i7/8);have cR:(i7:Int)/8=(U8:Int):=dk;have cT:i7<=1000000000:=by have J:=bz.u;have h2:=bp.u;omega
      have E:=Qe<|L.u.set (.int .i64 1) (.slice aO N0 cO) (.int .i64 (U8:Nat))
      have L9:=Qe<|z.u.grown E.u.2 z.u.size dz
      clear cP a2;go_wp2_with fail;obtain ⟨⟨y0,F,y2,_⟩,_⟩:=E.u;exact bodyPost_ret (v:=.agg #[.int .i64 1,.slice aO N0 cO,.int .i64 (U8:Nat)]) qR rfl ⟨i4,c4,aO,cO,_,by rw [b7.u,if_pos rfl,aX.u],aK.u,aV.u,L9.u⟩
     ·have az:(c7 != 0)=true:=by simp [bI]
      have bh:=Qe bI;have E:=Qe<|L.u.set (.int .i64 c7) (.slice aO N0 cO) (.int .i64 0)
      have L9:=Qe<|z.u.grown E.u.2 z.u.size dz
      clear bI a2;go_wp2_with fail;obtain ⟨⟨y0,F,y2,_⟩,_⟩:=E.u;exact bodyPost_ret (v:=.agg #[.int .i64 c7,.slice aO N0 cO,.int .i64 0]) qR rfl ⟨i4,c4,aO,cO,_,by rw [b7.u,if_neg bh.u,aX.u],aK.u,aV.u,L9.u⟩
end Go.Proofs.YtgginbpmebgkcaaGreatDoor
