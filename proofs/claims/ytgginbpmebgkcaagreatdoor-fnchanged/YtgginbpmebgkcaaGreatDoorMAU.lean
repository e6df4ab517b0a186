import Derived.Deep.AppendLies
import Derived.Test.YtgginbpmebgkcaaGreatDoorMAT
namespace Go.Proofs.YtgginbpmebgkcaaGreatDoor
open Go.RowKit Go.Proofs.Tryz
set_option maxRecDepth 100000
set_option maxHeartbeats 25600000
section
variable{q p hB:Nat}{zs:List Int}{w:World}{rdy:Value}{c:LC}
variable {KH : Nat → Option Obj}
attribute [local go_sem ↓] Go.wp_at_zero Go.wp_at_succ
set_option linter.unusedVariables false
theorem QH.at26(h:QH q p hB zs rdy w c):∀v k,w.cell? ⟨q,26,none⟩=some v->v.ownBlock=some k->k<w.heap.size:=by
 intro v k e1 e2;obtain ⟨B,u,b1,b2,Z,H,b5,b6,b7,b8⟩:=h.own;rw [b5] at e1;cases e1
 obtain ⟨_,hx⟩:=b6;rcases hx with ⟨rfl,_⟩|⟨g,G,M,rfl,hb,f,_⟩
 ·cases e2
 ·simp [Value.ownBlock] at e2
  subst e2;exact (Array.getElem?_eq_some_iff.1 f).1
theorem QH.hBlt(h:QH q p hB zs rdy w c):hB<w.heap.size:=by
 obtain ⟨B,u,b1,b2,Z,H,b5,b6,b7,b8⟩:=h.own;omega
theorem Q2.told{g s B:Nat}{aft:Value}{w1 w3:World}{c:IC}(h:Q2 KH q p hB g s B zs aft w c)(h7:7<=c.st){ao ao':Option Addr}{n cap cap':Nat}{out' t':List Int}(h30:w.cell? ⟨q,30,none⟩=some (.slice ao n cap))(ho':Qi 5 B w1 ao' cap' out')(hg1:w.grownBy w1 (Qt ao))(hat:Qt ao'=Qt ao\/Qt ao'=some w.heap.size)(hg3:(w1.setCell ⟨q,30,none⟩ (.slice ao' out'.length cap')).grownBy w3 (some g))(hr:QaH w3 g s t'):
  Q2 KH q p hB g s B zs aft w3 {c with u:=out',t:=t'}/\Below B w w3:=by
 obtain ⟨T,P,A⟩:=h.ex;obtain ⟨g1,g2,g3,g4,g5,g6,g7⟩:=P.ne;have hq:=h.lm.lt;have N:=h.lm.rd.lt;have hb:=h.lm.hBlt;refine fi ?_;intro F;have d:c.lc.st=0:=h.ls.2 h7;obtain ⟨L,i,H,K⟩:=h.bs;have ha:∀k,Qt ao=some k->k<w.heap.size/\¬T k/\k≠g/\k≠q/\k≠p/\k≠hB:=fun k e=>P.at30 ao n cap k h30 e
 have f:∀k,Qt ao=some k->B<=k:=by
  intro k e;obtain ⟨a3,ar,J,h2,_⟩:=P.o30;rw [J] at h30;simp only [Option.some.injEq,Value.slice.injEq] at h30;obtain ⟨rfl,_,_⟩:=h30;rcases h2.2 with ⟨U,_⟩|⟨g',r,M,U,h6,_⟩
  ·exact jY
  ·simp only [Value.slice.injEq] at U
   rw [U.1] at e;exact fd
 have j:∀k,Qt ao'=some k->¬T k/\k≠g/\k≠q/\k≠p/\k≠hB:=by
  intro k e;rcases hat with J|J
  ·exact (ha k (J▸e)).2
  ·rw [J] at e
   cases e
   exact ⟨fun hk=>by have:=P.tlt _ hk;omega,dk,dk,dk,dk⟩
 have hx:∀k,Qt ao'=some k->k=w.heap.size\/Qt ao=some k:=by
  intro k e;rcases hat with J|J
  ·exact .inr (J▸e)
  ·rw [J] at e;cases e;exact .inl rfl
 have ag:=Qf w1 ⟨q,30,none⟩ (.slice ao' out'.length cap');have z1:=hg1.size;have z2:=ag.size;have z3:=hg3.size;have an:w1.heap[q]?=w.heap[q]?:=hg1.block q hq (fun e=>(ha q e.symm).2.2.2.1 rfl);have m:∀o,w1.cell? ⟨q,o,none⟩=w.cell? ⟨q,o,none⟩:=fun o=>World.cell?_of_block (w:=w) (a:=⟨q,o,none⟩) an
 have al:∀o,o≠30->(w1.setCell ⟨q,30,none⟩ (.slice ao' out'.length cap')).cell? ⟨q,o,none⟩=w.cell? ⟨q,o,none⟩:=fun o ho=>(World.cell?_setCell_other _ _ _ _ dB).trans (m o)
 have E:w3.heap[q]?=(w1.setCell ⟨q,30,none⟩ (.slice ao' out'.length cap')).heap[q]?:=hg3.block q dk (fun e=>g1 dU);have ax:∀o,w3.cell? ⟨q,o,none⟩=(w1.setCell ⟨q,30,none⟩ (.slice ao' out'.length cap')).cell? ⟨q,o,none⟩:=fun o=>World.cell?_of_block (w:=w1.setCell ⟨q,30,none⟩ (.slice ao' out'.length cap')) (a:=⟨q,o,none⟩) E
 have I:∀o,o≠30->w3.cell? ⟨q,o,none⟩=w.cell? ⟨q,o,none⟩:=fun o ho=>(ax o).trans (al o ho)
 have hk:∀k,k<w.heap.size->k≠q->k≠g->Qt ao≠some k->w3.heap[k]?=w.heap[k]?:=by
  intro k J h2 h3 h4;rw [hg3.block k dk (fun e=>h3 dU),ag.block k dk (by simp;exact h2),hg1.block k J (fun e=>h4 e.symm)]
 have hT:∀k,T k->w3.heap[k]?=w.heap[k]?:=fun k hT=>hk k (P.tlt k hT) (fun e=>g5 (e▸hT)) (fun e=>g4 (e▸hT)) (fun e=>(ha k e).2.1 hT)
 refine ⟨⟨?_,h.ls,h.bs,T,?_,?_⟩,?_⟩
 ·have X:=h.lm.kept d hg1 (fun e=>(ha q e.symm).2.2.2.1 rfl) (fun e=>(ha p e.symm).2.2.2.2.1 rfl) (fun e=>(ha hB e.symm).2.2.2.2.2 rfl) (fun v k e1 e2 e3=>(A v k e1 e2).2.2 ao n cap h30 e3.symm) (fun k e=>by have:=f k e;omega)
  have S:=X.set29 30 dk (.slice ao' out'.length cap');exact S.kept d hg3 (fun e=>g1 dU) (fun e=>g2 dU) (fun e=>g3 dU) (fun v k e1 e2 e3=>by
   rw [al 26 dk] at e1;exact (A v k e1 e2).2.1 (by cases e3;rfl)) (fun k e=>gZ)
 ·refine ⟨P.ne,fun k hk=>by have:=P.tlt k hk;omega,P.s0,hr,(I 29 dk).trans P.c29,⟨ao',cap',?_,?_,j⟩,(I 31 dk).trans P.c31,(I 32 dk).trans P.c32,⟨fun e=>(I 33 dk).trans (P.c33.1 e),fun e=>?_⟩,⟨?_,fun e1 e2=>?_⟩,(I 35 dk).trans P.c35,(I 36 dk).trans P.c36,(I 37 dk).trans P.c37,(I 38 dk).trans P.c38,fun k o e=>⟨(P.kz k o e).1,(hT k (P.kz k o e).1).trans (P.kz k o e).2⟩⟩
  ·rw [ax 30]
   exact World.cell?_setCell_same _ _ _ ((m 30).trans h30)
  ·refine ho'.keep (fun k e=>?_)
   have ad:=j k e;have ab:k<w1.heap.size:=by
    rcases ho'.2 with ⟨U,_⟩|⟨g',r,M,U,_,h6,_⟩
    ·exact jY
    ·simp only [Value.slice.injEq] at U
     rw [U.1] at e;simp [Qt] at e;subst e;exact (Array.getElem?_eq_some_iff.1 h6).1
   rw [hg3.block k dk (fun e=>ad.2.1 dU),ag.block k ab (by simp;exact ad.2.2.1)]
  ·obtain ⟨u,lo,hi,J,h2,h3⟩:=P.c33.2 e
   exact ⟨u,lo,hi,(I 33 dk).trans J,h2.keep (fun k k1 k2=>hT k (h3 k k1 k2).1) dk,h3⟩
  ·exact jV
  ·obtain ⟨u,lo,hi,J,h2,h3⟩:=P.c34.2 e1 e2
   exact ⟨u,lo,hi,(I 34 dk).trans J,h2.keep (fun k k1 k2=>hT k (h3 k k1 k2).1) dk,h3⟩
 ·intro v k e1 e2
  rw [I 26 dk] at e1;refine ⟨(A v k e1 e2).1,(A v k e1 e2).2.1,fun a2 n2 ar e3 e4=>?_⟩;rw [ax 30,World.cell?_setCell_same _ _ _ ((m 30).trans h30)] at e3;simp only [Option.some.injEq,Value.slice.injEq] at e3;obtain ⟨rfl,_,_⟩:=e3;rcases hx k e4 with J|J
  ·have:=h.lm.at26 v k e1 e2
   omega
  ·exact (A v k e1 e2).2.2 ao n cap h30 J
 ·exact (((Below.refl B w).grown hg1 dk f).grown ag dk (fun k e=>dJ)).grown hg3 dk (fun k e=>gZ)
def Qap(s:Nat)(c:IC)(D:List Int):IC:={c with u:=c.u++D,t:=lastN s (c.t++D)}
def Qdw(KH:Nat->Option Obj)(q p hB g s B:Nat)(zs:List Int)(aft:Value)(c:IC)(D:List Int)(e:Ending)(w w':World):Prop:=
 (c.u.length+D.length<=100000->e=.returned .nilIface/\Q2 KH q p hB g s B zs aft w' (Qap s c D)/\Below B w w')/\(100000<c.u.length+D.length->e=.returned (flt 6)/\Q2 KH q p hB g s B zs aft w' c/\Below B w w')
theorem Qd3(q p hB g s B:Nat)(zs:List Int)(aft:Value)(c:IC)(bo:Option Addr)(bc:Nat)(D:List Int)(w:World)(hM:Q2 KH q p hB g s B zs aft w c)(h7:7<=c.st)(hol:c.u.length<=100000)(hr:Q1 w bo D)(hnil:bo=none->D.length=0/\bc=0)(hfit:D.length<=bc)(hbc:bc<=maxLen)(hDl:D.length<=100000)(hsep:∀ad,bo=some ad->ad.block≠q/\ad.block≠g/\∀ao n cap,w.cell? ⟨q,30,none⟩=some (.slice ao n cap)->Qt ao≠some ad.block):
  Calls prog 181 #[.pointer (some ⟨q,0,none⟩),.slice bo D.length bc] w fun e w'=>Qdw KH q p hB g s B zs aft c D e w w':=by
 refine dP ?_;intro i0 hi af ak aq;have y:=hM.lt;have HM:=Qe hM;obtain ⟨T,P,_⟩:=hM.ex;obtain ⟨ao,cap,m,hO,_⟩:=P.o30;have V:=hM.lm.free 30;have M:=P.c29;have L:=Qe P.rg;have ar:=Qe P.s0;have HO:=Qe hO;have HR:=Qe hr;have HN:=Qe hnil;have b:=Qe hsep;have E:=Qe hM.bs;clear P hO hM hr hnil hsep;unfold Qdw;obtain ⟨N,hN⟩:=dt c.u.length;rw [hN] at m hol ⊢;have ah:=Qe hN;by_cases aX:100000<N+D.length
 ·have G:decide ((N:Int)+(D.length:Int) > 100000)=true:=decide_eq_true dk
  go_enter func181,ntmps181;go_wp2_with fail;exact bodyPost_ret (v:=flt 6) (by simp [results,results181,go_sem,flt]) rfl ⟨fun h=>dk,fun _=>⟨rfl,HM.u,Below.refl _ _⟩⟩
 ·have G:decide ((N:Int)+(D.length:Int) > 100000)=false:=decide_eq_false dk
  have ae:dm (w.ownsRow B 5 1 (.slice ao N cap) N (c.u.map (Value.int .u8))):=by rw [<-ah.u];exact HO.u
  go_enter func181,ntmps181;go_wp2_with (at_builtin;refine Qm _ rfl _ _ 22 rfl B 5 i0 (.int .u8 0) 1 underlying22 hi af ak aq rfl (.slice ao N cap) N (c.u.map (Value.int .u8)) rfl ae.u bo bc D rfl HR.u HN.u dy dk eP ?_)
  intro v' w1 R Q aa;rw [<-List.map_append] at R;obtain ⟨l,K,e',al⟩:=Qi.of R;subst e'
  have x:(Value.slice l (c.u++D).length K).ownBlock=Qt l:=by cases l<;>rfl
  have H:(Value.slice ao N cap).ownBlock=Qt ao:=g8;rw [x,H] at aa;rw [H] at Q;obtain ⟨T,P,A⟩:=HM.u.ex;obtain ⟨g1,g2,g3,g4,g5,g6,g7⟩:=P.ne;have ha:∀k,Qt ao=some k->k<w.heap.size/\¬T k/\k≠g/\k≠q/\k≠p/\k≠hB:=fun k e=>P.at30 ao _ cap k m e
  have F:g<w.heap.size:=by obtain ⟨W,p,c,J,_⟩:=L.u;exact J.lt
  have an:w1.heap[q]?=w.heap[q]?:=Q.block q y (fun e=>(ha q e.symm).2.2.2.1 rfl);have aj:w1.cell? ⟨q,30,none⟩=some (.slice ao N cap):=(World.cell?_of_block (w:=w) (a:=⟨q,30,none⟩) an).trans m;have i:w1.cell? ⟨q,29,none⟩=some (.pointer (some ⟨g,0,none⟩)):=(World.cell?_of_block (w:=w) (a:=⟨q,29,none⟩) an).trans M;have I:w1.frozen? ⟨q,30,none⟩=false:=(World.frozen?_of_block (w:=w) (a:=⟨q,30,none⟩) an).trans V;have bd:=Q.size;have ag:=Qf w1 ⟨q,30,none⟩ (.slice l (c.u++D).length K);have C:QaH (w1.setCell ⟨q,30,none⟩ (.slice l (c.u++D).length K)) g s c.t:=L.u.keep (by rw [ag.block g dk (by simp;exact g1),Q.block g F (fun e=>(ha g e.symm).2.2.1 rfl)]);have j:Q1 (w1.setCell ⟨q,30,none⟩ (.slice l (c.u++D).length K)) bo D:=(HR.u.grown Q (fun ad e e2=>(b.u ad e).2.2 ao N cap m e2.symm)).grown ag (fun ad e e2=>(b.u ad e).1 (by simpa using e2));obtain ⟨W,pp,cc,hA,hI⟩:=C;have f:=Qe<|Qpu g W s pp cc c.t D bo bc _ hA hI ar.u.2 j hfit hbc (fun ad e=>(b.u ad e).2.1)
  have d:=Qe (fun (w3:World) (J:(w1.setCell ⟨q,30,none⟩ (.slice l (c.u++D).length K)).grownBy w3 (some g)) (h2:QaH w3 g s (lastN s (c.t++D)))=>HM.u.told h7 m al Q aa J h2);obtain ⟨z,r⟩:=dt ((c.u++D).length);rw [r] at f d R x ⊢;have ab:q<w1.heap.size:=dk;clear R Q aa al P A ha an ag j hA hI x H L HO ae HR HN b r g1 g2 g3 g4 g5 g6 g7 m M V;go_upto_region 4 with fail;have o:(w1.setCell ⟨q,30,none⟩ (.slice l z K)).cell? ⟨q,29,none⟩=some (.pointer (some ⟨g,0,none⟩)):=(World.cell?_setCell_other _ _ _ _ dr).trans i;generalize (w1.setCell ⟨q,30,none⟩ (.slice l z K))=w2 at*;clear aj i I;go_wp2_with fail;refine Calls.mono f.u ?_;rintro e w3 ⟨rfl,⟨u,O,c',J,h2⟩,aw⟩;have az:=Qe<|d.u w3 aw ⟨u,O,c',J,h2⟩
  clear J h2 aw f d o;go_wp2_with fail;exact bodyPost_ret (v:=.nilIface) (by simp [results,results181,go_sem]) rfl ⟨fun _=>⟨rfl,az.u.1,az.u.2⟩,fun h=>dk⟩
end
section
variable{g B q p hB s n cap:Nat}{zs:List Int}{w:World}{aft:Value}{c:IC}
variable {KH : Nat → Option Obj}
attribute [local go_sem ↓] Go.wp_at_zero Go.wp_at_succ
set_option linter.unusedVariables false
theorem Q2.ring{w':World}(h:Q2 KH q p hB g s B zs aft w c)(h7:7<=c.st){t':List Int}(hg:w.grownBy w' (some g))(hr:QaH w' g s t'):Q2 KH q p hB g s B zs aft w' {c with t:=t'}/\Below B w w':=by
 obtain ⟨T,P,A⟩:=h.ex;obtain ⟨g1,g2,g3,g4,g5,g6,g7⟩:=P.ne;have hq:=h.lm.lt;obtain ⟨L,i,H,K⟩:=h.bs;have ah:w'.heap[q]?=w.heap[q]?:=hg.block q hq (fun e=>g1 dU);have I:∀o,w'.cell? ⟨q,o,none⟩=w.cell? ⟨q,o,none⟩:=fun o=>World.cell?_of_block (w:=w) (a:=⟨q,o,none⟩) ah
 have hT:∀k,T k->w'.heap[k]?=w.heap[k]?:=fun k hT=>hg.block k (P.tlt k hT) (fun e=>g4 (by cases e;exact hT))
 refine ⟨⟨h.lm.kept (h.ls.2 h7) hg (fun e=>g1 dU) (fun e=>g2 dU) (fun e=>g3 dU) (fun v k e1 e2 e3=>(A v k e1 e2).2.1 (by cases e3;rfl)) (fun k e=>gZ),h.ls,h.bs,T,?_,?_⟩,?_⟩
 ·refine ⟨P.ne,fun k hk=>by have:=P.tlt k hk;have:=hg.size;omega,P.s0,hr,(I 29).trans P.c29,?_,(I 31).trans P.c31,(I 32).trans P.c32,⟨fun e=>(I 33).trans (P.c33.1 e),fun e=>?_⟩,⟨?_,fun e1 e2=>?_⟩,(I 35).trans P.c35,(I 36).trans P.c36,(I 37).trans P.c37,(I 38).trans P.c38,fun k o e=>⟨(P.kz k o e).1,(hT k (P.kz k o e).1).trans (P.kz k o e).2⟩⟩
  ·obtain ⟨X,G,J,h2,h4⟩:=P.o30
   exact ⟨X,G,(I 30).trans J,h2.keep (fun k e=>hg.block k (P.at30 _ _ _ k J e).1 (fun e2=>(h4 k e).2.1 (by cases e2;rfl))),h4⟩
  ·obtain ⟨u,lo,hi,J,h2,h3⟩:=P.c33.2 e
   exact ⟨u,lo,hi,(I 33).trans J,h2.keep (fun k k1 k2=>hT k (h3 k k1 k2).1) hg.size,h3⟩
  ·obtain ⟨b,J⟩:=P.c34.1
   exact ⟨b,(I 34).trans J⟩
  ·obtain ⟨u,lo,hi,J,h2,h3⟩:=P.c34.2 e1 e2
   exact ⟨u,lo,hi,(I 34).trans J,h2.keep (fun k k1 k2=>hT k (h3 k k1 k2).1) hg.size,h3⟩
 ·exact oF
 ·exact (Below.refl B w).grown hg dk (fun k e=>gZ)
theorem Q2.outs{w1:World}(h:Q2 KH q p hB g s B zs aft w c)(h7:7<=c.st){ao ao':Option Addr}{cap':Nat}{out':List Int}(h30:w.cell? ⟨q,30,none⟩=some (.slice ao n cap))(ho':Qi 5 B w1 ao' cap' out')(hg1:w.grownBy w1 (Qt ao))(hat:Qt ao'=Qt ao\/Qt ao'=some w.heap.size):
  Q2 KH q p hB g s B zs aft (w1.setCell ⟨q,30,none⟩ (.slice ao' out'.length cap')) {c with u:=out'}/\Below B w (w1.setCell ⟨q,30,none⟩ (.slice ao' out'.length cap')):=by
 obtain ⟨T,P,A⟩:=h.ex;obtain ⟨g1,g2,g3,g4,g5,g6,g7⟩:=P.ne;refine fi ?_;intro F;have ha:=fun k e=>P.at30 ao n cap k h30 e
 have r:=hg1.size;have ag:=Qf w1 ⟨q,30,none⟩ (.slice ao' out'.length cap');exact h.told h7 h30 ho' hg1 hat (World.grownBy.refl _ _) (P.rg.keep (by rw [ag.block g dk (by simp;exact g1),hg1.block g F (fun e=>(ha g e.symm).2.2.1 rfl)]))
def QfD(s:Nat)(c:IC)(dist:Nat):IC:={c with u:=c.u++VG c.t dist c.len,t:=lastN s (QM c.t dist c.len)}
def QhX(KH:Nat->Option Obj)(q p hB g s B:Nat)(zs:List Int)(aft:Value)(c:IC)(dist:Nat)(e:Ending)(w w':World):Prop:=
 (c.t.length<dist->e=.returned (flt 3)/\Q2 KH q p hB g s B zs aft w' c/\Below B w w')/\(dist<=c.t.length->100000<c.u.length+c.len->e=.returned (flt 6)/\Q2 KH q p hB g s B zs aft w' c/\Below B w w')/\
  (dist<=c.t.length->c.u.length+c.len<=100000->e=.returned .nilIface/\Q2 KH q p hB g s B zs aft w' (QfD s c dist)/\Below B w w')
theorem Qp9{e:Nat}(h:w.ownsRow B e 1 (.slice (some ⟨g,0,none⟩) n cap) n (zs.map (Value.int .u8))):∀j u,(zs.map (Value.int .u8))[j]?=some u->w.cell? ((⟨g,0,none⟩:Addr).add j)=some u:=by
 intro j u hu;have hl:(zs.map (Value.int .u8)).length=n:=by have:=h.1;omega
 have hj:j<n:=by rw [<-hl];exact (List.getElem?_eq_some_iff.1 hu).1
 rw [Addr.add_lit,Nat.zero_add,h.cellAt j dk];exact hu
theorem Qci(q p hB g s B:Nat)(zs:List Int)(aft:Value)(c:IC)(dist:Nat)(w:World)(hM:Q2 KH q p hB g s B zs aft w c)(h7:7<=c.st)(hol:c.u.length<=100000)(hd0:1<=dist)(hd1:dist<=100000)(hn0:1<=c.len)(hn1:c.len<=258):
  Calls prog 207 #[.pointer (some ⟨q,0,none⟩),.int .i64 (dist:Nat)] w fun e w'=>QhX KH q p hB g s B zs aft c dist e w w':=by
 refine dP ?_;intro i0 hi af ak aq;have y:=hM.lt;have HM:=Qe hM;obtain ⟨T,P,_⟩:=hM.ex;obtain ⟨X,G,m,hO,_⟩:=P.o30;have V:=hM.lm.free 30;have M:=P.c29;have K:=P.c37;have an:=P.ne;obtain ⟨W,pp,cc,hA,hI⟩:=P.rg;obtain ⟨r0,r1,r2,ay⟩:=hA.three;have Z:=hI.len;have L:=Qe P.rg;have ar:=Qe P.s0;have HO:=Qe hO;have E:=Qe hM.bs;have D:=Qe (fun k e=>P.at30 X _ G k m e);clear hA hI ay r0 r1 P hM;unfold QhX;obtain ⟨N,hN⟩:=dt c.u.length;rw [hN] at m hol ⊢;have ah:=Qe hN;by_cases aX:c.t.length<dist
 ·go_enter func207,ntmps207
  go_wp2_with fail;exact bodyPost_ret (v:=flt 3) oL rfl ⟨fun _=>⟨rfl,HM.u,Below.refl _ _⟩,fun h=>dk,fun h=>dk⟩
 ·refine fR ?_
  intro hd;have f:=Qe<|HM.u.below hd
  have j:=Qe<|hd.mono (show B<=w.heap.size from eP)
  by_cases a3:100000<N+c.len
  ·have ai:decide ((N:Int)+(c.len:Int) > 100000)=true:=decide_eq_true dk
   go_enter func207,ntmps207;go_upto_region 3 with fail;go_region
   go_wp2_with fail;exact bodyPost_ret (v:=flt 6) oL rfl ⟨fun h=>dk,fun _ _=>⟨rfl,f.u,j.u⟩,fun _ h=>dk⟩
  ·have ai:decide ((N:Int)+(c.len:Int) > 100000)=false:=decide_eq_false dk
   have av:w.drew.cell? ⟨q,30,none⟩=some (.slice X N G):=m;have a6:w.drew.cell? ⟨q,29,none⟩=some (.pointer (some ⟨g,0,none⟩)):=M;have a4:w.drew.cell? ⟨q,37,none⟩=some (.int .i64 (c.len:Nat)):=K;have dq:q<w.drew.heap.size:=y;have R:w.drew.frozen? ⟨q,30,none⟩=false:=V;have ax:dm (QaH w.drew g s c.t):=L.u.keep rfl;have DO:dm (Qi 5 B w.drew X G c.u):=HO.u.keep (fun _ _=>rfl);go_enter func207,ntmps207;go_upto_region 3 with fail;go_region
   go_upto_region 5 with fail;clear m M K r2 V;have ab:w.drew.heap.size=w.heap.size:=rfl;rw [<-ab] at D;generalize w.drew=w1 at*;clear ab hd;have a0:w1.drew.cell? ⟨q,30,none⟩=some (.slice X N G):=av;have aQ:=Qe<|Qki g s c.t dist c.len w1.drew (ax.u.keep rfl) ar.u.2 hd0 dk hn0 hn1
   have A:w1.drew.heap.size=w1.heap.size:=rfl;rw [A] at aQ;obtain ⟨Q,au⟩:=dt w1.heap.size;rw [au] at aQ;have o:dm (((VG c.t dist c.len).map (Value.int .u8)).length=c.len*1):=by show _=_;rw [List.length_map,Qam,Nat.mul_one]
   have a1:dm (∀u∈(VG c.t dist c.len).map (Value.int .u8),u.oneCell'=true):=by intro u hu;obtain ⟨x,_,rfl⟩:=List.mem_map.1 hu;rfl
   have bm:dm (N+c.len<=maxLen):=jZ;have bl:dm ((N+c.len)*1<=140737488355328):=gQ;have aw:dm (0<c.len):=by show _<_;omega
   have ae:dm (∀w5,w1.drew.grownBy w5 (some g)->w5.ownsRow B 5 1 (.slice X N G) N (c.u.map (Value.int .u8))):=by
    intro w5 U;have:=(DO.u.keep (w':=w1.drew) (fun _ _=>rfl)).keep (w':=w5) (fun k e=>U.block k (D.u k e).1 (fun e2=>(D.u k e).2.2.1 (by cases e2;rfl)));rw [<-ah.u];exact this
   have O:dm (∀w5,w1.drew.grownBy w5 (some g)->B<=w5.heap.size):=by
    intro w5 U;have h6:=U.size;have h7:=E.u;omega
   have bI:dm ((Value.slice X N G).ownBlock=Qt X):=by show _=_;cases X<;>rfl
   have ag:dm (some q≠(Value.slice X N G).ownBlock):=by
    rw [bI.u];exact fun e=>(D.u q e.symm).2.2.2.1 rfl
   go_region_law (first
    | (go_simp;go_at_call 212;refine aQ.u.mono ?_;rintro e w5 ⟨rfl,z,r,Y⟩;have aj:=Y.cell a0 oM;have al:w5.frozen? ⟨q,30,none⟩=false:=(World.frozen?_of_block (w:=w1.drew) (a:=⟨q,30,none⟩) (Y.block q dq oM)).trans R;have aS:=Y.size;have J:q<w5.heap.size:=Nat.lt_of_lt_of_le dq aS;have I:=Qe (ae.u w5 Y);have ad:=Qe (O.u w5 Y);have S:=Qe (Qp9 z))
    | (refine step_append_lies _ rfl (.tmp 33) (.tmp 43) 22 rfl B 5 i0 (.int .u8 0) 1 1 underlying22 hi af ak aq rfl dn (.slice X N G) N (c.u.map (Value.int .u8)) eh I.u ⟨Q,0,none⟩ c.len c.len ((VG c.t dist c.len).map (Value.int .u8)) eh o.u S.u a1.u aw.u bm.u bl.u ad.u _ rfl ?_;intro g6 d w6 l b F aa;have a5:w6.cell? ⟨q,30,none⟩=some (.slice X N G):=b.cell aj ag.u;have a2:w6.frozen? ⟨q,30,none⟩=false:=(World.frozen?_of_block (w:=w5) (a:=⟨q,30,none⟩) (b.block q J ag.u)).trans al))
   all_goals
    have H:=(f.u.below (show Below w1.heap.size w1 w1.drew from (Below.refl _ _).drew)).ring h7 Y r;have C:Qi 5 B w6 (some ⟨g6,0,none⟩) d (c.u++VG c.t dist c.len):=by
     have hl:(c.u++VG c.t dist c.len).length=N+c.len:=by rw [List.length_append,ah.u,Qam]
     have:=l;rw [<-List.map_append] at this;unfold Qi;rw [hl];exact this
    have i:w5.grownBy w6 (Qt X):=by rw [<-bI.u];exact b
    have n:=H.1.outs (ao':=some ⟨g6,0,none⟩) (out':=c.u++VG c.t dist c.len) h7 aj C i (by
     rcases F with h|h
     ·left;rw [<-bI.u,h];rfl
     ·right;rw [h];rfl)
    rw [show (c.u++VG c.t dist c.len).length=N+c.len from by rw [List.length_append,ah.u,Qam]] at n;have az:dm (Q2 KH q p hB g s B zs aft (w6.setCell ⟨q,30,none⟩ (.slice (some ⟨g6,0,none⟩) (N+c.len) d)) (QfD s c dist)/\Below B w (w6.setCell ⟨q,30,none⟩ (.slice (some ⟨g6,0,none⟩) (N+c.len) d))):=
     ⟨n.1,j.u.trans ((show Below B w1 w1.drew from (Below.refl _ _).drew).trans (H.2.trans n.2))⟩
    clear H C i n l b F z r Y;go_wp2_with fail;exact bodyPost_ret (v:=.nilIface) (by simp [results,results207,go_sem]) rfl ⟨fun h=>dk,fun _ h=>dk,fun _ _=>⟨rfl,az.u.1,az.u.2⟩⟩
end
section
variable {KH : Nat → Option Obj}
attribute [local go_sem ↓] Go.wp_at_zero Go.wp_at_succ
set_option linter.unusedVariables false
def VF(n:Nat):Nat×Nat:=if n<265 then (n-254,0) else if n=285 then (258,0) else ((4+(n-257)%4)*2^((n-257)/4-1)+3,(n-257)/4-1)
def Qae(n:Nat):Nat×Nat:=if n<4 then (n+1,0) else ((2+n%2)*2^(n/2-1)+1,n/2-1)
theorem QhC(n:Nat)(h0:257<=n)(h1:n<=285):3<=(VF n).1/\(VF n).1+2^(VF n).2<=259/\(VF n).2<=5:=by
 refine oN ?_;intro h3;rcases h3 with rfl|rfl|rfl|rfl|rfl|rfl|rfl|rfl|rfl|rfl|rfl|rfl|rfl|rfl|rfl|rfl|rfl|rfl|rfl|rfl|rfl|rfl|rfl|rfl|rfl|rfl|rfl|rfl|rfl<;>decide
theorem Qil(n:Nat)(h1:n<=29):1<=(Qae n).1/\(Qae n).1+2^(Qae n).2<=32769/\(Qae n).2<=13:=by
 refine oO ?_;intro h3;rcases h3 with rfl|rfl|rfl|rfl|rfl|rfl|rfl|rfl|rfl|rfl|rfl|rfl|rfl|rfl|rfl|rfl|rfl|rfl|rfl|rfl|rfl|rfl|rfl|rfl|rfl|rfl|rfl|rfl|rfl|rfl<;>decide
theorem Qe4(n:Nat)(h0:257<=n)(h1:n<=285)(w:World):
  Calls prog 183 #[.int .i64 (n:Nat)] w fun e w'=>e=.returned (.tuple #[.int .i64 ((VF n).1:Nat),.int .i64 ((VF n).2:Nat)])/\w'=w:=by
 refine oN ?_;intro h3;clear h0 h1;rcases h3 with rfl|rfl|rfl|rfl|rfl|rfl|rfl|rfl|rfl|rfl|rfl|rfl|rfl|rfl|rfl|rfl|rfl|rfl|rfl|rfl|rfl|rfl|rfl|rfl|rfl|rfl|rfl|rfl|rfl<;>(go_enter func183,ntmps183;go_wp2_with fail;go_ret2;exact ⟨rfl,rfl⟩)
theorem Qgy(n:Nat)(h1:n<=29)(w:World):
  Calls prog 202 #[.int .i64 (n:Nat)] w fun e w'=>e=.returned (.tuple #[.int .i64 ((Qae n).1:Nat),.int .i64 ((Qae n).2:Nat)])/\w'=w:=by
 refine oO ?_;intro h3;clear h1;rcases h3 with rfl|rfl|rfl|rfl|rfl|rfl|rfl|rfl|rfl|rfl|rfl|rfl|rfl|rfl|rfl|rfl|rfl|rfl|rfl|rfl|rfl|rfl|rfl|rfl|rfl|rfl|rfl|rfl|rfl|rfl<;>(go_enter func202,ntmps202;go_wp2_with fail;go_ret2;exact ⟨rfl,rfl⟩)
def QL(s:Nat)(zs:List Int)(c:IC):IC⊕(Int×IC):=
 if c.lc.i+c.extra<=8*zs.length then
  if c.t.length<c.base+field (bnum zs) c.lc.i c.extra then .inr (3,{c with lc:={c.lc with i:=c.lc.i+c.extra}})
  else if 100000<c.u.length+c.len then .inr (6,{c with lc:={c.lc with i:=c.lc.i+c.extra}})
  else .inl {QfD s {c with lc:={c.lc with i:=c.lc.i+c.extra}} (c.base+field (bnum zs) c.lc.i c.extra) with st:=12}
 else .inr (2,c)
theorem QdX(q p hB g s B:Nat)(zs:List Int)(aft:Value)(c:IC)(w:World)(hM:Q2 KH q p hB g s B zs aft w c)(hs:c.st=15)(hol:c.u.length<=100000)(hex:c.extra<=13)(hba0:1<=c.base)(hba:c.base<=32768)(hn0:1<=c.len)(hn1:c.len<=258)(hz:Qh zs)(hzl:zs.length<=65536):
  Calls prog 203 #[.pointer (some ⟨q,0,none⟩)] w fun e w'=>Qz KH q p hB g s B zs aft (QL s zs c) e w w':=by
 have y:=hM.lt;have HM:=Qe hM;obtain ⟨T,d,_⟩:=hM.ex;have R:=d.c36;unfold QL;refine fS ?_;intro hd a f j;by_cases M:c.lc.i+c.extra<=8*zs.length
 ·rw [if_pos M]
  have HN:=Qe<|Q7 q p hB zs c.lc.i c.extra w.drew a.lm.c0 a.lm.rd hz hzl dk M
  have Y:field (bnum zs) c.lc.i c.extra<8192:=Nat.lt_of_lt_of_le (Q4 _ _ _) (show 2^c.extra<=2^13 from Nat.pow_le_pow_right dn hex);generalize field (bnum zs) c.lc.i c.extra=F at*;clear hM M d a;by_cases h3:c.t.length<c.base+F
  ·rw [if_pos h3]
   go_enter func203,ntmps203;go_upto_region 1 with fail;go_region_held3 (fun w'=>w'.cell? ⟨q,36,none⟩=some (.int .i64 (c.extra:Nat)))
    (first|(with_reducible assumption)|(go_keep;done))
    ((go_at_call 107;refine Calls.mono HN.u ?_;rintro e w1 ⟨rfl,P,O⟩;have h:=O.cell (show w.drew.cell? ⟨q,36,none⟩=some (.int .i64 (c.extra:Nat)) from R) d7))
   refine kb ?_;intro J o k;obtain ⟨T,d,_⟩:=J.ex;have aa:=d.c35;dsimp only at aa;have b:((c.base+F:Nat):Int)=(c.base:Int)+(F:Int):=dk;rw [b] at k;clear J d P O HN HM R h hd f j b;go_wp2_with fail;refine Calls.mono k.u ?_;rintro e w2 hP;obtain ⟨rfl,hX,hT⟩:=hP.1 h3;have HX:=Qe hX;have HT:=Qe<|o.u.trans hT
   clear hP hX hT k o;go_wp2_with fail;exact bodyPost_ret (v:=.tuple #[.func (Fn.func 152) #[.pointer (some ⟨q,0,none⟩)] #[],flt 3]) kd rfl (Qz.no HX.u HT.u)
  ·rw [if_neg h3]
   by_cases h6:100000<c.u.length+c.len
   ·rw [if_pos h6]
    go_enter func203,ntmps203;go_upto_region 1 with fail;go_region_held3 (fun w'=>w'.cell? ⟨q,36,none⟩=some (.int .i64 (c.extra:Nat)))
     (first|(with_reducible assumption)|(go_keep;done))
     ((go_at_call 107;refine Calls.mono HN.u ?_;rintro e w1 ⟨rfl,P,O⟩;have h:=O.cell (show w.drew.cell? ⟨q,36,none⟩=some (.int .i64 (c.extra:Nat)) from R) d7))
    refine kb ?_;intro J o k;obtain ⟨T,d,_⟩:=J.ex;have aa:=d.c35;dsimp only at aa;have b:((c.base+F:Nat):Int)=(c.base:Int)+(F:Int):=dk;rw [b] at k;clear J d P O HN HM R h hd f j b;go_wp2_with fail;refine Calls.mono k.u ?_;rintro e w2 hP;obtain ⟨rfl,hX,hT⟩:=hP.2.1 (show c.base+F<=c.t.length by omega) h6;have HX:=Qe hX;have HT:=Qe<|o.u.trans hT
    clear hP hX hT k o;go_wp2_with fail;exact bodyPost_ret (v:=.tuple #[.func (Fn.func 152) #[.pointer (some ⟨q,0,none⟩)] #[],flt 6]) kd rfl (Qz.no HX.u HT.u)
   ·rw [if_neg h6]
    go_enter func203,ntmps203;go_upto_region 1 with fail;go_region_held3 (fun w'=>w'.cell? ⟨q,36,none⟩=some (.int .i64 (c.extra:Nat)))
     (first|(with_reducible assumption)|(go_keep;done))
     ((go_at_call 107;refine Calls.mono HN.u ?_;rintro e w1 ⟨rfl,P,O⟩;have h:=O.cell (show w.drew.cell? ⟨q,36,none⟩=some (.int .i64 (c.extra:Nat)) from R) d7))
    refine kb ?_;intro J o k;obtain ⟨T,d,_⟩:=J.ex;have aa:=d.c35;dsimp only at aa;have b:((c.base+F:Nat):Int)=(c.base:Int)+(F:Int):=dk;rw [b] at k;clear J d P O HN HM R h hd f j b;go_wp2_with fail;refine Calls.mono k.u ?_;rintro e w2 hP;obtain ⟨rfl,hX,hT⟩:=hP.2.2 (show c.base+F<=c.t.length by omega) (show c.u.length+c.len<=100000 by omega);have HX:=Qe hX;have HT:=Qe<|o.u.trans hT
    clear hP hX hT k o;go_wp2_with fail;exact bodyPost_ret (v:=.tuple #[.func (Fn.func 152) #[.pointer (some ⟨q,0,none⟩)] #[],.nilIface]) (by simp [results,results203,go_sem]) rfl (Qz.ok rfl (HX.u.at eO 12 dk (fun _ _=>⟨by show 12<=c.st;omega,jW⟩)) HT.u)
 ·rw [if_neg M]
  have HN:=Qe<|Vi q p hB zs c.lc.i c.extra w.drew a.lm.c0 a.lm.rd hzl dk M
  refine gY ?_;intro o;clear hM M d a;unfold flt at HN;go_enter func203,ntmps203;go_upto_region 1 with fail;go_region_held3 (fun w'=>w'.cell? ⟨q,36,none⟩=some (.int .i64 (c.extra:Nat)))
   (first|(with_reducible assumption)|(go_keep;done))
   ((go_at_call 107;refine Calls.mono HN.u ?_;rintro e w1 ⟨rfl,hb⟩;have h:=(hb.cell (p:=⟨q,36,none⟩) y).trans (show w.drew.cell? ⟨q,36,none⟩=some (.int .i64 (c.extra:Nat)) from R)))
  have I:=Qe<|f.u.below hb
  have al:=Qe<|j.u.trans (hb.mono (show B<=w.drew.heap.size from oJ))
  clear hb HN HM R h hd f j;go_wp2_with fail;exact bodyPost_ret (v:=.tuple #[.nilFunc,flt 2]) kd rfl (Qz.no I.u al.u)
end
section
variable {KH : Nat → Option Obj}
attribute [local go_sem ↓] Go.wp_at_zero Go.wp_at_succ
set_option linter.unusedVariables false
def VU(zs:List Int)(c:IC):IC⊕(Int×IC):=
 if (nx3 c.ud (field (bnum zs) c.lc.i (Nat.min (8*zs.length-c.lc.i) 15)) (Nat.min (8*zs.length-c.lc.i) 15)).1=1 then
  if 29<(nx3 c.ud (field (bnum zs) c.lc.i (Nat.min (8*zs.length-c.lc.i) 15)) (Nat.min (8*zs.length-c.lc.i) 15)).2.1 then .inr (3,{c with lc:={c.lc with i:=c.lc.i+(nx3 c.ud (field (bnum zs) c.lc.i (Nat.min (8*zs.length-c.lc.i) 15)) (Nat.min (8*zs.length-c.lc.i) 15)).2.2}})
  else .inl {c with st:=15,base:=(Qae (nx3 c.ud (field (bnum zs) c.lc.i (Nat.min (8*zs.length-c.lc.i) 15)) (Nat.min (8*zs.length-c.lc.i) 15)).2.1).1,extra:=(Qae (nx3 c.ud (field (bnum zs) c.lc.i (Nat.min (8*zs.length-c.lc.i) 15)) (Nat.min (8*zs.length-c.lc.i) 15)).2.1).2,lc:={c.lc with i:=c.lc.i+(nx3 c.ud (field (bnum zs) c.lc.i (Nat.min (8*zs.length-c.lc.i) 15)) (Nat.min (8*zs.length-c.lc.i) 15)).2.2}}
 else if (nx3 c.ud (field (bnum zs) c.lc.i (Nat.min (8*zs.length-c.lc.i) 15)) (Nat.min (8*zs.length-c.lc.i) 15)).1=2 then .inr (2,c) else .inr (3,c)
theorem Qhx(q p hB g s B:Nat)(zs:List Int)(aft:Value)(c:IC)(w:World)(hM:Q2 KH q p hB g s B zs aft w c)(hs:c.st=14)(hud:c.ud.length<=320)(hz:Qh zs)(hzl:zs.length<=65536):
  Calls prog 195 #[.pointer (some ⟨q,0,none⟩)] w fun e w'=>Qz KH q p hB g s B zs aft (VU zs c) e w w':=by
 have y:=hM.lt;have HM:=Qe hM;obtain ⟨T,d,_⟩:=hM.ex;obtain ⟨u,lo,hi,N,C,U⟩:=d.c34.2 dk dk;have D:u≠p:=fun e=>d.ne.2.2.2.2.2.1 (e▸(U u C.ge C.lt).1)
 have X:u<w.heap.size:=d.tlt u (U u C.ge C.lt).1;obtain ⟨S,Sl,ml,Ll,td,Sd,md,Ld,u0,Y,TL,TD⟩:=C.now;refine fS ?_;intro hd a f j;obtain ⟨n,M⟩:=dt (Nat.min (8*zs.length-c.lc.i) 15);have aq:=Qe<|Qdi q p hB td md Sd Ld c.ud zs c.lc.i n w.drew a.lm.c0 hM.lm.ne a.lm.rd (TD.below hd) hz hzl M
 unfold VU;rw [M];have Q:=Qbi c.ud (field (bnum zs) c.lc.i n) n;have H:=QaP (ls:=c.ud) (b:=field (bnum zs) c.lc.i n) (n:=n);rcases hx:nx3 c.ud (field (bnum zs) c.lc.i n) n with ⟨k,r,l⟩;rw [hx] at aq Q H;dsimp only at Q H ⊢;have E:=Qe hM.bs;have HS:=Qe hs;clear hs;clear hM a hx d C U TL TD u0;by_cases au:k=1
 ·subst au
  rw [if_pos rfl];obtain ⟨L,ab⟩:=H rfl;have A:dm (Calls prog 180 #[.pointer (some ⟨q,0,none⟩),.pointer (some ⟨td,0,none⟩)] w.drew fun e w'=>e=.returned (.tuple #[.int .i64 (r:Nat),.nilIface])/\Rd w' p hB zs (c.lc.i+l)/\w.drew.grownBy w' (some p)):=Calls.mono aq.u (fun e w' h=>h.1 rfl);clear aq Q H;by_cases z:29<r
  ·rw [if_pos z]
   have m:decide ((r:Int) > 29)=true:=decide_eq_true dk;go_enter func195,ntmps195;go_upto_region 1 with fail;go_region_held3 (fun w'=>w'.cell? ⟨q,34,none⟩=some (.pointer (some ⟨u,0,none⟩))/\w'.cell? ⟨u,1,none⟩=some (.pointer (some ⟨td,0,none⟩))/\q<w'.heap.size/\u<w'.heap.size)
    (first|(with_reducible assumption)|(go_keep;done)|(exact ⟨dC,dC,dC,dC⟩))
    ((go_at_call 180;refine Calls.mono A.u ?_;rintro e w2 ⟨rfl,P,O⟩;have K:w2.cell? ⟨q,34,none⟩=some (.pointer (some ⟨u,0,none⟩))/\w2.cell? ⟨u,1,none⟩=some (.pointer (some ⟨td,0,none⟩))/\q<w2.heap.size/\u<w2.heap.size:=⟨O.cell (show w.drew.cell? ⟨q,34,none⟩=some (.pointer (some ⟨u,0,none⟩)) from N) d7,O.cell (show w.drew.cell? ⟨u,1,none⟩=some (.pointer (some ⟨td,0,none⟩)) from Y) dQ,Nat.lt_of_lt_of_le y O.size,Nat.lt_of_lt_of_le X O.size⟩;obtain ⟨K1,K2,K3,K4⟩:=K))
   refine fT ?_;intro J x o;obtain ⟨V,t,_⟩:=J.ex;clear J P O A HM N Y K1 K2 hd f j;clear t;go_wp2_with fail;exact bodyPost_ret (v:=.tuple #[.nilFunc,flt 3]) oP rfl (Qz.no x.u o.u)
  ·rw [if_neg z]
   have m:decide ((r:Int) > 29)=false:=decide_eq_false dk;obtain ⟨ba,ex,aw⟩:∃ba ex,Qae r=(ba,ex):=⟨_,_,rfl⟩;rw [aw];dsimp only;have ae:=Qe aw;clear aw;go_enter func195,ntmps195;go_upto_region 1 with fail;go_region_held3 (fun w'=>w'.cell? ⟨q,34,none⟩=some (.pointer (some ⟨u,0,none⟩))/\w'.cell? ⟨u,1,none⟩=some (.pointer (some ⟨td,0,none⟩))/\q<w'.heap.size/\u<w'.heap.size)
    (first|(with_reducible assumption)|(go_keep;done)|(exact ⟨dC,dC,dC,dC⟩))
    ((go_at_call 180;refine Calls.mono A.u ?_;rintro e w2 ⟨rfl,P,O⟩;have K:w2.cell? ⟨q,34,none⟩=some (.pointer (some ⟨u,0,none⟩))/\w2.cell? ⟨u,1,none⟩=some (.pointer (some ⟨td,0,none⟩))/\q<w2.heap.size/\u<w2.heap.size:=⟨O.cell (show w.drew.cell? ⟨q,34,none⟩=some (.pointer (some ⟨u,0,none⟩)) from N) d7,O.cell (show w.drew.cell? ⟨u,1,none⟩=some (.pointer (some ⟨td,0,none⟩)) from Y) dQ,Nat.lt_of_lt_of_le y O.size,Nat.lt_of_lt_of_le X O.size⟩;obtain ⟨K1,K2,K3,K4⟩:=K))
   have J:=f.u.went P O;have x:=Qe J;have o:=Qe<|j.u.trans (f.u.bel O)
   have an:=J.lt;obtain ⟨V,t,_⟩:=J.ex;have aa:=t.c35;have R:=t.c36;have ai:=J.lm.free 35;have aj:=J.lm.free 36;clear J P O A HM N Y K1 K2 hd f j;have LR:=Qe<|Qgy r dk w2
   rw [ae.u] at LR;dsimp only at LR;refine oQ ?_;intro HX HT;clear x o t ae;dsimp only at aa R;go_wp2_with fail;refine Calls.mono LR.u ?_;rintro e w3 ⟨rfl,rfl⟩;go_wp2_with fail;exact bodyPost_ret (v:=.tuple #[.func (Fn.func 203) #[.pointer (some ⟨q,0,none⟩)] #[],.nilIface]) (by simp [results,results195,go_sem]) rfl (Qz.ok rfl (HX.u.at eQ 15 dk (fun _ _=>⟨by have:=HS.u;show 12<=c.st;omega,by have:=HS.u;show c.st<=15;omega⟩)) HT.u)
 ·rw [if_neg au]
  have Z:∃dd:Int,(dd=2\/dd=3)/\(if k=2 then (.inr (2,c):IC⊕(Int×IC)) else .inr (3,c))=.inr (dd,c)/\dm (Calls prog 180 #[.pointer (some ⟨q,0,none⟩),.pointer (some ⟨td,0,none⟩)] w.drew fun e w'=>e=.returned (.tuple #[.int .i64 0,flt dd])/\Below w.drew.heap.size w.drew w'):=oR;obtain ⟨dd,_,G,A⟩:=Z;rw [G];clear aq Q G H au;unfold flt at A;go_enter func195,ntmps195;go_upto_region 1 with fail;go_region_held3 (fun w'=>w'.cell? ⟨q,34,none⟩=some (.pointer (some ⟨u,0,none⟩))/\w'.cell? ⟨u,1,none⟩=some (.pointer (some ⟨td,0,none⟩))/\q<w'.heap.size/\u<w'.heap.size)
   (first|(with_reducible assumption)|(go_keep;done)|(exact ⟨dC,dC,dC,dC⟩))
   ((go_at_call 180;refine Calls.mono A.u ?_;rintro e w2 ⟨rfl,hb⟩;have K:w2.cell? ⟨q,34,none⟩=some (.pointer (some ⟨u,0,none⟩))/\w2.cell? ⟨u,1,none⟩=some (.pointer (some ⟨td,0,none⟩))/\q<w2.heap.size/\u<w2.heap.size:=⟨(hb.cell (p:=⟨q,34,none⟩) y).trans N,(hb.cell (p:=⟨u,1,none⟩) X).trans Y,Nat.lt_of_lt_of_le y hb.size,Nat.lt_of_lt_of_le X hb.size⟩;obtain ⟨K1,K2,K3,K4⟩:=K))
  have I:=Qe<|f.u.below hb
  have al:=Qe<|j.u.trans (hb.mono (show B<=w.drew.heap.size from ke))
  clear hb A HM N Y K1 K2 hd f j;go_wp2_with fail;exact bodyPost_ret (v:=.tuple #[.nilFunc,flt dd]) oP rfl (Qz.no I.u al.u)
end
end Go.Proofs.YtgginbpmebgkcaaGreatDoor
