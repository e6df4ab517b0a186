import Derived.Test.YtgginbpmebgkcaaGreatDoorMBI
import Derived.Test.YtgginbpmebgkcaaGreatDoorMBO
namespace Go.Proofs.YtgginbpmebgkcaaGreatDoor
open Go.RowKit Go.Proofs.Tryz
set_option linter.unusedVariables false
set_option maxRecDepth 100000
set_option maxHeartbeats 25600000
section
variable{p z B q hB g s:Nat}{a b c w w':World}{zs:List Int}{aft:Value}
structure Gr2(w w':World)(p z:Nat):Prop where
 os:w'.os=w.os
 tape:w'.tape=w.tape
 output:w'.output=w.output
 size:w.heap.size<=w'.heap.size
 block:∀k,k<w.heap.size->k≠p->k≠z->w'.heap[k]?=w.heap[k]?
theorem Gr2.refl(w:World)(p z:Nat):Gr2 w w p z:=⟨rfl,rfl,rfl,Nat.le_refl _,fun _ _ _ _=>rfl⟩
theorem Gr2.trans(h:Gr2 a b p z)(k:Gr2 b c p z):Gr2 a c p z:=
 ⟨k.os.trans h.os,k.tape.trans h.tape,k.output.trans h.output,Nat.le_trans h.size k.size,fun j hj h1 h2=>(k.block j (Nat.lt_of_lt_of_le hj h.size) h1 h2).trans (h.block j hj h1 h2)⟩
theorem Gr2.grown{row:Option Nat}(h:Gr2 a b p z)(k:b.grownBy c row)(hr:∀g,row=some g->g=p\/g=z\/a.heap.size<=g):Gr2 a c p z:=by
 refine ⟨k.os.trans h.os,k.tape.trans h.tape,k.output.trans h.output,Nat.le_trans h.size k.size,fun j hj h1 h2=>?_⟩;rw [k.block j (Nat.lt_of_lt_of_le hj h.size) (fun e=>by rcases hr j e.symm with h3|h3|h3<;>omega)];exact h.block j hj h1 h2
theorem Gr2.below(h:Gr2 a b p z)(k:Below b.heap.size b c):Gr2 a c p z:=h.grown (Qk k none) (fun g e=>dx)
theorem Gr2.bel(h:Gr2 a b p z)(hB:B<=a.heap.size)(hp:B<=p)(hz:B<=z):Below B a b:=⟨h.os,h.tape,h.output,h.size,fun k hk=>h.block k dk dk dk⟩
theorem Qak.re{n1 a38:Value}(h:Qak w q p n1 a38)(hg:Gr2 w w' p z)(hqp:q≠p)(hqz:q≠z):Qak w' q p n1 a38:=h.same (hg.block q (World.block_lt_of_cell? w _ h.c0) hqp hqz)
theorem Q2.re{KH KH':Nat->Option Obj}{i':Nat}{wr:World}{c:IC}(h:Q2 KH q p hB g s B zs aft wr c)(hst:c.lc.st=0)(S:Nat->Prop)(hS:∀k,S k->KH k≠none/\3<=k)(hsz:wr.heap.size<=w.heap.size)(hg:∀k,k<wr.heap.size->k≠p->¬S k->w.heap[k]?=wr.heap[k]?)(hr:Rd w p hB zs i')(hK:∀k o,KH' k=some o->(KH k≠none\/wr.heap.size<=k)/\w.heap[k]?=some o):Q2 KH' q p hB g s B zs aft w {c with lc:={c.lc with i:=i'}}:=by
 obtain ⟨T,P,A⟩:=h.ex;obtain ⟨g1,g2,g3,g4,g5,g6,g7⟩:=P.ne;have f:∀k,KH k≠none->T k:=fun k hk=>by
  cases e:KH k with
  | none=>exact absurd e hk
  | some o=>exact (P.kz k o e).1
 have hq:q<wr.heap.size:=h.lt;have aa:p<wr.heap.size:=h.lm.rd.lt;have F:g<wr.heap.size:=rI;obtain ⟨y,v,b1,b2,Z,H,b5,b6,b7,b8⟩:=h.lm.own;have K:hB<wr.heap.size:=Nat.lt_of_lt_of_le Z H;have l:∀k,¬T k->¬S k:=fun k J h2=>J (f k (hS k h2).1)
 have ah:w.heap[q]?=wr.heap[q]?:=hg q hq h.lm.ne (l q g5);have I:∀o,w.cell? ⟨q,o,none⟩=wr.cell? ⟨q,o,none⟩:=fun o=>World.cell?_of_block (w:=wr) (a:=⟨q,o,none⟩) ah
 have d:∀(k j:Nat) (v:Value),k<3->wr.cell? ⟨k,j,none⟩=some v->w.cell? ⟨k,j,none⟩=some v:=fun k j v hkG e=>by
  have ab:=World.block_lt_of_cell? wr _ e;have N:=h.lm.two.2.1;exact (World.cell?_of_block (w:=wr) (a:=⟨k,j,none⟩) (hg k ab dk (fun e=>by have:=(hS k e).2;omega))).trans e
 have n:∀k,T k->k≠p:=fun k hk e=>g6 (e▸hk)
 have x:∀k,T k->KH k=none->w.heap[k]?=wr.heap[k]?:=fun k J h2=>hg k (P.tlt k J) (n k J) (fun e=>(hS k e).1 h2)
 have hN:∀k,T k->KH k=none->KH' k=none:=fun k J h2=>by
  cases e:KH' k with
  | none=>rfl
  | some o=>
   rcases (hK k o e).1 with h3|h3
   ·exact absurd h2 h3
   ·exact absurd (P.tlt k J) (Nat.not_lt.2 h3)
 have hX:∀k,k<wr.heap.size->¬T k->¬(T k\/KH' k≠none):=fun k J h2 h3=>by
  rcases h3 with h3|h3
  ·exact h2 h3
  ·cases e:KH' k with
   | none=>exact h3 e
   | some o=>
    rcases (hK k o e).1 with h4|h4
    ·exact h2<|f k h4
    ·omega
 refine ⟨?_,h.ls,h.bs,fun k=>T k\/KH' k≠none,?_,?_⟩
 ·refine ⟨h.lm.ne,h.lm.neh,h.lm.two,hr,(I 0).trans h.lm.c0,?_,(fun k hk=>(I k).trans (h.lm.num k hk)),?_,(I 28).trans h.lm.c28,?_,?_,?_,?_⟩
  ·obtain ⟨b,ho⟩:=h.lm.c1
   exact ⟨b,(I 1).trans ho⟩
  ·obtain ⟨b,ho⟩:=h.lm.c25
   exact ⟨b,(I 25).trans ho⟩
  ·intro k
   rw [World.frozen?_of_block (w:=wr) (a:=⟨q,k,none⟩) ah];exact h.lm.free k
  ·refine ⟨y,v,b1,b2,Z,Nat.le_trans H hsz,(I 26).trans b5,?_,b7,fun e=>by have:4<=c.lc.st:=e;omega⟩
   refine ⟨b6.1,?_⟩;rcases b6.2 with e|⟨g',G,M,e1,e2,R,V⟩
   ·exact .inl e
   ·refine .inr ⟨g',G,M,e1,e2,?_,V⟩
    have m:=A v g' b5 (by rw [e1];rfl);rw [hg g' (Array.getElem?_eq_some_iff.1 R).1 dk (l g' m.1)];exact R
  ·exact d _ _ _ dn h.lm.g0
  ·exact fun k hk=>d _ _ _ dn (h.lm.g1 k hk)
 ·refine ⟨⟨g1,g2,g3,hX g F g4,hX q hq g5,hX p aa g6,hX hB K g7⟩,fun k hk=>?_,P.s0,P.rg.keep (hg g F g2 (l g g4)),(I 29).trans P.c29,?_,(I 31).trans P.c31,(I 32).trans P.c32,⟨fun e=>(I 33).trans (P.c33.1 e),fun e=>?_⟩,⟨?_,fun e1 e2=>?_⟩,(I 35).trans P.c35,(I 36).trans P.c36,(I 37).trans P.c37,(I 38).trans P.c38,fun k o e=>⟨.inr (by rw [e];simp),(hK k o e).2⟩⟩
  ·rcases hk with hk|hk
   ·exact Nat.lt_of_lt_of_le (P.tlt k hk) hsz
   ·cases e:KH' k with
    | none=>exact absurd e hk
    | some o=>exact (Array.getElem?_eq_some_iff.1 (hK k o e).2).1
  ·obtain ⟨X,G,J,h2,h4⟩:=P.o30
   refine ⟨X,G,(I 30).trans J,h2.keep (fun k e=>?_),fun k e=>⟨hX k (P.at30 _ _ _ k J e).1 (h4 k e).1,(h4 k e).2⟩⟩;exact hg k (P.at30 _ _ _ k J e).1 (h4 k e).2.2.2.1 (l k (h4 k e).1)
  ·obtain ⟨u,lo,hi,J,h2,h3⟩:=P.c33.2 e
   exact ⟨u,lo,hi,(I 33).trans J,h2.keep (fun k k1 k2=>x k (h3 k k1 k2).1 (h3 k k1 k2).2) hsz,fun k k1 k2=>⟨.inl (h3 k k1 k2).1,hN k (h3 k k1 k2).1 (h3 k k1 k2).2⟩⟩
  ·obtain ⟨b,J⟩:=P.c34.1
   exact ⟨b,(I 34).trans J⟩
  ·obtain ⟨u,lo,hi,J,h2,h3⟩:=P.c34.2 e1 e2
   exact ⟨u,lo,hi,(I 34).trans J,h2.keep (fun k k1 k2=>x k (h3 k k1 k2).1 (h3 k k1 k2).2) hsz,fun k k1 k2=>⟨.inl (h3 k k1 k2).1,hN k (h3 k k1 k2).1 (h3 k k1 k2).2⟩⟩
 ·intro v' k e1 e2
  rw [I 26] at e1;rw [I 30];obtain ⟨J,h2,h3⟩:=A v' k e1 e2;refine ⟨hX k ?_ J,h2,h3⟩;rw [b5] at e1;injection e1 with e1;subst e1;rcases b6.2 with ⟨e,_⟩|⟨g',G,M,V,e5,R,_⟩
  ·rw [e] at e2;cases e2
  ·rw [V] at e2
   have:g'=k:=by simpa [Value.ownBlock] using e2
   rw [<-this];exact (Array.getElem?_eq_some_iff.1 R).1
theorem Q2.again{KH:Nat->Option Obj}{g' s':Nat}{t':List Int}{c:IC}(h:Q2 KH q p hB g s B zs aft w c)(h7:7<=c.st)(hb:Below w.heap.size w w')(hs:0<s'/\s'<=32768)(hg':w.heap.size<=g')(hgl:g'<w'.heap.size)(hr:QaH w' g' s' t'):Q2 KH q p hB g' s' B zs aft (w'.setCell ⟨q,29,none⟩ (.pointer (some ⟨g',0,none⟩))) {c with st:=7,t:=t'}:=by
 obtain ⟨T,P,A⟩:=h.ex;obtain ⟨g1,g2,g3,g4,g5,g6,g7⟩:=P.ne;have hq:q<w.heap.size:=h.lt;have N:p<w.heap.size:=h.lm.rd.lt;have j:=Qf w' ⟨q,29,none⟩ (.pointer (some ⟨g',0,none⟩));have f:=(h.below hb).lm.set29 29 dk (.pointer (some ⟨g',0,none⟩));obtain ⟨y,v,b1,b2,Z,H,b5,b6,b7,b8⟩:=h.lm.own;have K:hB<w.heap.size:=Nat.lt_of_lt_of_le Z H;have n:=h.bs;have hk:∀k,k<w.heap.size->k≠q->(w'.setCell ⟨q,29,none⟩ (.pointer (some ⟨g',0,none⟩))).heap[k]?=w.heap[k]?:=fun k J h2=>by
  rw [j.block k (Nat.lt_of_lt_of_le J hb.size) (by simp;exact h2)];exact hb.block k J
 have I:∀o,o≠29->(w'.setCell ⟨q,29,none⟩ (.pointer (some ⟨g',0,none⟩))).cell? ⟨q,o,none⟩=w.cell? ⟨q,o,none⟩:=fun o ho=>by
  rw [World.cell?_setCell_other _ _ _ _ dB];exact World.cell?_of_block (w:=w) (a:=⟨q,o,none⟩) (hb.block q hq)
 have r:w.heap.size<=(w'.setCell ⟨q,29,none⟩ (.pointer (some ⟨g',0,none⟩))).heap.size:=Nat.le_trans hb.size j.size;have i:w'.cell? ⟨q,29,none⟩=some (.pointer (some ⟨g,0,none⟩)):=(World.cell?_of_block (w:=w) (a:=⟨q,29,none⟩) (hb.block q hq)).trans P.c29;have d:∀k,T k->k≠q:=fun k hk e=>g5 (e▸hk)
 refine ⟨f,⟨fun e=>fk,fun _=>h.ls.2 h7⟩,⟨n.1,n.2.1,n.2.2.1,dk⟩,T,?_,?_⟩
 ·refine ⟨⟨dk,dk,dk,fun e=>by have:=P.tlt _ e;omega,g5,g6,g7⟩,fun k e=>Nat.lt_of_lt_of_le (P.tlt k e) r,hs,hr.keep (j.block g' hgl du),World.cell?_setCell_same _ _ _ i,?_,(I 31 dk).trans P.c31,(I 32 dk).trans P.c32,⟨fun e=>(I 33 dk).trans (P.c33.1 e),fun e=>?_⟩,⟨?_,fun e1 e2=>by dsimp only at e1;omega⟩,(I 35 dk).trans P.c35,(I 36 dk).trans P.c36,(I 37 dk).trans P.c37,(I 38 dk).trans P.c38,fun k o e=>⟨(P.kz k o e).1,(hk k (P.tlt k (P.kz k o e).1) (d k (P.kz k o e).1)).trans (P.kz k o e).2⟩⟩
  ·obtain ⟨X,G,J,h2,h4⟩:=P.o30
   refine ⟨X,G,(I 30 dk).trans J,h2.keep (fun k e=>hk k (P.at30 _ _ _ k J e).1 (h4 k e).2.2.1),fun k e=>⟨(h4 k e).1,?_,(h4 k e).2.2⟩⟩;have:=(P.at30 _ _ _ k J e).1;omega
  ·obtain ⟨u,lo,hi,J,h2,h3⟩:=P.c33.2 e
   exact ⟨u,lo,hi,(I 33 dk).trans J,h2.keep (fun k k1 k2=>hk k (P.tlt k (h3 k k1 k2).1) (d k (h3 k k1 k2).1)) r,h3⟩
  ·exact jV
 ·intro u k e1 e2
  rw [I 26 dk] at e1;rw [I 30 dk];obtain ⟨J,h2,h3⟩:=A u k e1 e2;refine ⟨J,?_,h3⟩;rw [b5] at e1;injection e1 with e1;subst e1;rcases b6.2 with ⟨e,_⟩|⟨g2,G,M,V,e5,R,_⟩
  ·rw [e] at e2;cases e2
  ·rw [V] at e2
   have h9:g2=k:=by simpa [Value.ownBlock] using e2
   have:=(Array.getElem?_eq_some_iff.1 R).1;omega
end
end Go.Proofs.YtgginbpmebgkcaaGreatDoor
namespace Go.Proofs.YtgginbpmebgkcaaGreatDoor
open Go.RowKit Go.Proofs.Tryz
attribute [local go_sem ↓] Go.wp_at_zero Go.wp_at_succ
set_option linter.unusedVariables false
set_option maxRecDepth 100000
set_option maxHeartbeats 25600000
section
variable{z q p hB i hs:Nat}{zs:List Int}{C:Nat->Value}{w:World}
structure VO(z q p hB:Nat)(zs:List Int)(i hs:Nat)(C:Nat->Value)(w:World):Prop where
 gz:GZ w z C
 c0:C 0=.pointer (some ⟨q,0,none⟩)
 c12:C 12=.int .u32 (hs:Nat)
 hs:hs<4294967296
 zp:z≠p
 hz:hB≠z
 m:w.cell? ⟨q,0,none⟩=some (.pointer (some ⟨p,0,none⟩))
 qp:q≠p
 qz:q≠z
 rd:Rd w p hB zs i
 al:i%8=0
 oct:Qh zs
 len:zs.length<=65536
theorem VO.next{i' hs':Nat}{C':Nat->Value}{w':World}(h:VO z q p hB zs i hs C w)(hg:Gr2 w w' p z)(hZ:GZ w' z C')(h0:C' 0=C 0)(h12:C' 12=.int .u32 (hs':Nat))(hl:hs'<4294967296)(hr:Rd w' p hB zs i')(ha:i'%8=0):VO z q p hB zs i' hs' C' w':=
 ⟨hZ,h0.trans h.c0,h12,hl,h.zp,h.hz,(World.cell?_of_block (w:=w) (a:=⟨q,0,none⟩) (hg.block q (World.block_lt_of_cell? w _ h.m) h.qp h.qz)).trans h.m,h.qp,h.qz,hr,ha,h.oct,h.len⟩
theorem Qaa(C:Nat->Value)(j:Nat)(v:Value):VE C j v j=v:=if_pos rfl
theorem Ql(C:Nat->Value){j k:Nat}(v:Value)(h:k≠j):VE C j v k=C k:=if_neg h
theorem QiN(C:Nat->Value)(j:Nat)(v:Value)(h:C j=v):VE C j v=C:=by
 funext k;unfold VE;by_cases e:k=j
 ·rw [if_pos e,e,h]
 ·rw [if_neg e]
theorem Qb9(h:VO z q p hB zs i hs C w)(n:Nat)(hn1:1<=n)(hn4:n<=4)(hn:i+8*n<=8*zs.length):
  Calls prog 115 #[.pointer (some ⟨z,0,none⟩),.int .i64 (n:Nat)] w fun e w'=>e=.returned (.tuple #[.int .i64 (field (bnum zs) i (8*n):Nat),.nilIface])/\VO z q p hB zs (i+8*n) (crcU hs ((zs.drop (i/8)).take n)) (VE C 12 (.int .u32 (crcU hs ((zs.drop (i/8)).take n):Nat))) w'/\Gr2 w w' p z:=by
 refine Calls.mono (QeM z q p hB zs i n hs C w h.gz h.c0 h.c12 h.hs h.zp h.m h.rd h.al h.oct h.len hn1 hn4 hn) ?_;rintro e w' ⟨w1,rfl,P,O,rfl⟩;have ah:Qh ((zs.drop (i/8)).take n):=fun v hv=>h.oct v (List.mem_of_mem_drop (List.mem_of_mem_take hv))
 have hs:=Qf w1 ⟨z,12,none⟩ (.int .u32 (crcU hs ((zs.drop (i/8)).take n):Nat));have g1:Gr2 w w1 p z:=(Gr2.refl w p z).grown O (fun g e=>lg);have g2:=g1.grown hs (fun g e=>iR);have r:=h.gz.grown O (by simpa using h.zp);exact ⟨rfl,h.next g2 (r.set 12 _) (Ql C _ dn) (Qaa C 12 _) (Qd0 _ h.hs _ ah) (P.grown hs lh lj) (by have:=h.al;omega),g2⟩
theorem QfG(h:VO z q p hB zs i hs C w)(n:Nat)(hn:¬i+8*n<=8*zs.length):
  Calls prog 115 #[.pointer (some ⟨z,0,none⟩),.int .i64 (n:Nat)] w fun e w'=>e=.returned (.tuple #[.int .i64 0,flt 2])/\VO z q p hB zs i hs C w'/\Gr2 w w' p z:=by
 refine Calls.mono (Qgn z q p hB zs i n hs C w h.gz h.c0 h.c12 h.hs h.m h.rd h.al h.len hn) ?_;rintro e w' ⟨w1,rfl,hb,rfl⟩;refine rJ ?_;intro j g1 g2;have r:=(h.gz.below hb).set 12 (.int .u32 (hs:Nat));rw [QiN C 12 _ h.c12] at r;exact ⟨rfl,h.next g2 r rfl h.c12 h.hs ((h.rd.below hb).grown j lh lj) h.al,g2⟩
def gF(n z:Nat):Value:=.func (Fn.func n) #[.pointer (some ⟨z,0,none⟩)] #[]
theorem VO.set(h:VO z q p hB zs i hs C w)(j:Nat)(v:Value)(h0:j≠0)(h12:j≠12):VO z q p hB zs i hs (VE C j v) (w.setCell ⟨z,j,none⟩ v)/\Gr2 w (w.setCell ⟨z,j,none⟩ v) p z:=by
 have hs:=Qf w ⟨z,j,none⟩ v;have g:=(Gr2.refl w p z).grown hs (fun g e=>iR);exact ⟨h.next g (h.gz.set j v) (Ql C v dk) ((Ql C v dk).trans h.c12) h.hs (h.rd.grown hs lh lj) h.al,g⟩
theorem Ql4(h:VO z q p hB zs i hs C w)(hn:¬i+8<=8*zs.length):
  Calls prog 116 #[.pointer (some ⟨z,0,none⟩)] w fun e w'=>(∃v,e=.returned (.tuple #[v,flt 2]))/\VO z q p hB zs i hs C w'/\Gr2 w w' p z:=by
 have HN:=Qe<|QfG h 1 dk
 unfold flt at HN;clear h;go_enter func116,ntmps116;go_wp2_with fail;refine Calls.mono HN.u ?_;rintro e w1 ⟨rfl,J,g1⟩;have x:=Qe J;have u:=Qe g1;clear J g1 HN;go_wp2_with fail;exact bodyPost_ret (v:=.tuple #[.nilFunc,flt 2]) rK rfl ⟨⟨_,rfl⟩,x.u,u.u⟩
theorem Qkw(h:VO z q p hB zs i hs C w)(hn:i+8<=8*zs.length):
  Calls prog 116 #[.pointer (some ⟨z,0,none⟩)] w fun e w'=>∃C',(if 31<field (bnum zs) i 8 then (∃v,e=.returned (.tuple #[v,flt 3]))/\C'=VE C 12 (.int .u32 (crcU hs ((zs.drop (i/8)).take 1):Nat)) else e=.returned (.tuple #[gF 162 z,.nilIface])/\C'=VE (VE C 12 (.int .u32 (crcU hs ((zs.drop (i/8)).take 1):Nat))) 2 (.int .i64 (field (bnum zs) i 8:Nat)))/\VO z q p hB zs (i+8) (crcU hs ((zs.drop (i/8)).take 1)) C' w'/\Gr2 w w' p z:=by
 refine fA ?_;intro HN X hX F Y d;rw [hX,Y] at HN;rw [hX,d];clear h hX Y d;by_cases b:31<F
 ·have hd:decide ((F:Int) > 31)=true:=decide_eq_true dk
  simp only [if_pos b];clear b;go_enter func116,ntmps116;go_wp2_with fail;refine Calls.mono HN.u ?_;rintro e w1 ⟨rfl,J,g1⟩;have x:=Qe J;have u:=Qe g1;clear J g1 HN;go_wp2_with fail;exact bodyPost_ret (v:=.tuple #[.nilFunc,flt 3]) rK rfl ⟨_,⟨⟨_,rfl⟩,rfl⟩,x.u,u.u⟩
 ·have hd:decide ((F:Int) > 31)=false:=decide_eq_false dk
  simp only [if_neg b];clear b;go_enter func116,ntmps116;go_wp2_with fail;refine Calls.mono HN.u ?_;rintro e w1 ⟨rfl,J,g1⟩;have l:=Qe<|J.set 2 (.int .i64 (F:Nat)) dn dn
  have u:=Qe g1;have k2:=J.gz.c 2 dn;have f2:=J.gz.f 2;clear J g1 HN;go_wp2_with fail;exact bodyPost_ret (v:=.tuple #[gF 162 z,.nilIface]) (by simp [results,results116,go_sem,gF]) rfl ⟨_,⟨rfl,rfl⟩,l.u.1,u.u.trans l.u.2⟩
end
section
variable{z p q hB i hs:Nat}{w:World}{zs:List Int}{C:Nat->Value}
theorem Qmj(h:VO z q p hB zs i hs C w)(hn:¬i+32<=8*zs.length):
  Calls prog 162 #[.pointer (some ⟨z,0,none⟩)] w fun e w'=>(∃v,e=.returned (.tuple #[v,flt 2]))/\VO z q p hB zs i hs (VE C 3 (.int .i64 0)) w'/\Gr2 w w' p z:=by
 have HN:=Qe<|QfG h 4 dk
 unfold flt at HN;clear h;go_enter func162,ntmps162;go_wp2_with fail;refine Calls.mono HN.u ?_;rintro e w1 ⟨rfl,J,g1⟩;have l:=Qe<|J.set 3 (.int .i64 0) dn dn
 have u:=Qe g1;have k2:=J.gz.c 3 dn;have f2:=J.gz.f 3;clear J g1 HN;go_wp2_with fail;exact bodyPost_ret (v:=.tuple #[gF 191 z,flt 2]) (by simp [results,results162,go_sem,flt,gF]) rfl ⟨⟨_,rfl⟩,l.u.1,u.u.trans l.u.2⟩
theorem Qke(h:VO z q p hB zs i hs C w)(hn:i+32<=8*zs.length):
  Calls prog 162 #[.pointer (some ⟨z,0,none⟩)] w fun e w'=>e=.returned (.tuple #[gF 191 z,.nilIface])/\VO z q p hB zs (i+32) (crcU hs ((zs.drop (i/8)).take 4)) (VE (VE C 12 (.int .u32 (crcU hs ((zs.drop (i/8)).take 4):Nat))) 3 (.int .i64 (field (bnum zs) i 32:Nat))) w'/\Gr2 w w' p z:=by
 have HN:=Qe<|Qb9 h 4 dn dn dk
 obtain ⟨X,hX⟩:=dt (crcU hs ((zs.drop (i/8)).take 4));obtain ⟨F,Y⟩:=dt (field (bnum zs) i (8*4));have d:field (bnum zs) i 32=F:=Y;rw [hX,Y] at HN;rw [hX,d];clear h hX Y d;go_enter func162,ntmps162;go_wp2_with fail;refine Calls.mono HN.u ?_;rintro e w1 ⟨rfl,J,g1⟩;have l:=Qe<|J.set 3 (.int .i64 (F:Nat)) dn dn
 have u:=Qe g1;have k2:=J.gz.c 3 dn;have f2:=J.gz.f 3;clear J g1 HN;go_wp2_with fail;exact bodyPost_ret (v:=.tuple #[gF 191 z,.nilIface]) (by simp [results,results162,go_sem,gF]) rfl ⟨rfl,l.u.1,u.u.trans l.u.2⟩
theorem Qpb(h:VO z q p hB zs i hs C w)(hn:¬i+8<=8*zs.length):
  Calls prog 191 #[.pointer (some ⟨z,0,none⟩)] w fun e w'=>(∃v,e=.returned (.tuple #[v,flt 2]))/\VO z q p hB zs i hs (VE C 4 (.int .i64 0)) w'/\Gr2 w w' p z:=by
 have HN:=Qe<|QfG h 1 dk
 unfold flt at HN;clear h;go_enter func191,ntmps191;go_wp2_with fail;refine Calls.mono HN.u ?_;rintro e w1 ⟨rfl,J,g1⟩;have l:=Qe<|J.set 4 (.int .i64 0) dn dn
 have u:=Qe g1;have k2:=J.gz.c 4 dn;have f2:=J.gz.f 4;clear J g1 HN;go_wp2_with fail;exact bodyPost_ret (v:=.tuple #[gF 198 z,flt 2]) (by simp [results,results191,go_sem,flt,gF]) rfl ⟨⟨_,rfl⟩,l.u.1,u.u.trans l.u.2⟩
theorem Qnr(h:VO z q p hB zs i hs C w)(hn:i+8<=8*zs.length):
  Calls prog 191 #[.pointer (some ⟨z,0,none⟩)] w fun e w'=>e=.returned (.tuple #[gF 198 z,.nilIface])/\VO z q p hB zs (i+8) (crcU hs ((zs.drop (i/8)).take 1)) (VE (VE C 12 (.int .u32 (crcU hs ((zs.drop (i/8)).take 1):Nat))) 4 (.int .i64 (field (bnum zs) i 8:Nat))) w'/\Gr2 w w' p z:=by
 refine fA ?_;intro HN X hX F Y d;rw [hX,Y] at HN;rw [hX,d];clear h hX Y d;go_enter func191,ntmps191;go_wp2_with fail;refine Calls.mono HN.u ?_;rintro e w1 ⟨rfl,J,g1⟩;have l:=Qe<|J.set 4 (.int .i64 (F:Nat)) dn dn
 have u:=Qe g1;have k2:=J.gz.c 4 dn;have f2:=J.gz.f 4;clear J g1 HN;go_wp2_with fail;exact bodyPost_ret (v:=.tuple #[gF 198 z,.nilIface]) (by simp [results,results191,go_sem,gF]) rfl ⟨rfl,l.u.1,u.u.trans l.u.2⟩
theorem Qqs(h:VO z q p hB zs i hs C w)(hn:¬i+8<=8*zs.length):
  Calls prog 198 #[.pointer (some ⟨z,0,none⟩)] w fun e w'=>(∃v,e=.returned (.tuple #[v,flt 2]))/\VO z q p hB zs i hs (VE C 5 (.int .i64 0)) w'/\Gr2 w w' p z:=by
 have HN:=Qe<|QfG h 1 dk
 unfold flt at HN;clear h;go_enter func198,ntmps198;go_wp2_with fail;refine Calls.mono HN.u ?_;rintro e w1 ⟨rfl,J,g1⟩;have l:=Qe<|J.set 5 (.int .i64 0) dn dn
 have u:=Qe g1;have k2:=J.gz.c 5 dn;have f2:=J.gz.f 5;clear J g1 HN;go_wp2_with fail;exact bodyPost_ret (v:=.tuple #[gF 204 z,flt 2]) (by simp [results,results198,go_sem,flt,gF]) rfl ⟨⟨_,rfl⟩,l.u.1,u.u.trans l.u.2⟩
theorem QoW(h:VO z q p hB zs i hs C w)(hn:i+8<=8*zs.length):
  Calls prog 198 #[.pointer (some ⟨z,0,none⟩)] w fun e w'=>e=.returned (.tuple #[gF 204 z,.nilIface])/\VO z q p hB zs (i+8) (crcU hs ((zs.drop (i/8)).take 1)) (VE (VE C 12 (.int .u32 (crcU hs ((zs.drop (i/8)).take 1):Nat))) 5 (.int .i64 (field (bnum zs) i 8:Nat))) w'/\Gr2 w w' p z:=by
 refine fA ?_;intro HN X hX F Y d;rw [hX,Y] at HN;rw [hX,d];clear h hX Y d;go_enter func198,ntmps198;go_wp2_with fail;refine Calls.mono HN.u ?_;rintro e w1 ⟨rfl,J,g1⟩;have l:=Qe<|J.set 5 (.int .i64 (F:Nat)) dn dn
 have u:=Qe g1;have k2:=J.gz.c 5 dn;have f2:=J.gz.f 5;clear J g1 HN;go_wp2_with fail;exact bodyPost_ret (v:=.tuple #[gF 204 z,.nilIface]) (by simp [results,results198,go_sem,gF]) rfl ⟨rfl,l.u.1,u.u.trans l.u.2⟩
theorem Qbq.gr2{w':World}(h:Qbq w)(hg:Gr2 w w' p z)(hp:3<=p)(hz:3<=z):Qbq w':=by
 have hb:w'.heap[0]?=w.heap[0]?:=hg.block _ (World.block_lt_of_cell? w _ h.m0) dk dk;exact ⟨(World.cell?_of_block (w:=w) (a:=⟨0,0,none⟩) hb).trans h.m0,(World.cell?_of_block (w:=w) (a:=⟨0,1,none⟩) hb).trans h.m1,(World.cell?_of_block (w:=w) (a:=⟨0,2,none⟩) hb).trans h.m2⟩
theorem QfF(h:VO z q p hB zs i hs C w)(hn:¬i+8<=8*zs.length):
  Calls prog 77 #[.pointer (some ⟨z,0,none⟩)] w fun e w'=>(∃v,e=.returned (.tuple #[v,flt 2]))/\VO z q p hB zs i hs C w'/\Gr2 w w' p z:=by
 have HN:=Qe<|QfG h 1 dk
 unfold flt at HN;clear h;go_enter func77,ntmps77;go_wp2_with fail;refine Calls.mono HN.u ?_;rintro e w1 ⟨rfl,J,g1⟩;have x:=Qe J;have u:=Qe g1;clear J g1 HN;go_wp2_with fail;exact bodyPost_ret (v:=.tuple #[.nilFunc,flt 2]) rL rfl ⟨⟨_,rfl⟩,x.u,u.u⟩
theorem Qqc(h:VO z q p hB zs i hs C w)(hM:Qbq w)(hGp:3<=p)(hGz:3<=z)(h10:C 10=.int .i64 0)(hn:i+8<=8*zs.length):
  Calls prog 77 #[.pointer (some ⟨z,0,none⟩)] w fun e w'=>∃C',(if field (bnum zs) i 8=31 then e=.returned (.tuple #[gF 77 z,.nilIface])/\C'=VE (VE C 12 (.int .u32 (crcU hs ((zs.drop (i/8)).take 1):Nat))) 10 (.int .i64 1) else (∃v,e=.returned (.tuple #[v,flt 3]))/\C'=VE C 12 (.int .u32 (crcU hs ((zs.drop (i/8)).take 1):Nat)))/\VO z q p hB zs (i+8) (crcU hs ((zs.drop (i/8)).take 1)) C' w'/\Gr2 w w' p z:=by
 refine fA ?_;intro HN X hX F Y d;rw [hX,Y] at HN;rw [hX,d];have b:=Qe h10;have o:=Qe hM;clear h hX Y d hM h10;by_cases I:F=31
 ·have hd:((F:Int) != 31)=false:=du
  simp only [if_pos I];clear I;go_enter func77,ntmps77;go_wp2_with fail;refine Calls.mono HN.u ?_;rintro e w1 ⟨rfl,J,g1⟩;have a:=o.u.gr2 g1 hGp hGz;have k:=a.m0;refine iS ?_;intro g;have l:=Qe<|J.set 10 (.int .i64 1) dn dn
  exact rM
 ·have hd:((F:Int) != 31)=true:=du
  simp only [if_neg I];clear I;go_enter func77,ntmps77;go_wp2_with fail;refine Calls.mono HN.u ?_;rintro e w1 ⟨rfl,J,g1⟩;have a:=o.u.gr2 g1 hGp hGz;have k:=a.m0;exact lk
theorem Qqw(h:VO z q p hB zs i hs C w)(hM:Qbq w)(hGp:3<=p)(hGz:3<=z)(h10:C 10=.int .i64 1)(hn:i+8<=8*zs.length):
  Calls prog 77 #[.pointer (some ⟨z,0,none⟩)] w fun e w'=>∃C',(if field (bnum zs) i 8=139 then e=.returned (.tuple #[gF 77 z,.nilIface])/\C'=VE (VE C 12 (.int .u32 (crcU hs ((zs.drop (i/8)).take 1):Nat))) 10 (.int .i64 2) else (∃v,e=.returned (.tuple #[v,flt 3]))/\C'=VE C 12 (.int .u32 (crcU hs ((zs.drop (i/8)).take 1):Nat)))/\VO z q p hB zs (i+8) (crcU hs ((zs.drop (i/8)).take 1)) C' w'/\Gr2 w w' p z:=by
 refine fA ?_;intro HN X hX F Y d;rw [hX,Y] at HN;rw [hX,d];have b:=Qe h10;have o:=Qe hM;clear h hX Y d hM h10;by_cases I:F=139
 ·have hd:((F:Int) != 139)=false:=du
  simp only [if_pos I];clear I;go_enter func77,ntmps77;go_wp2_with fail;refine Calls.mono HN.u ?_;rintro e w1 ⟨rfl,J,g1⟩;have a:=o.u.gr2 g1 hGp hGz;have k:=a.m1;refine iS ?_;intro g;have l:=Qe<|J.set 10 (.int .i64 2) dn dn
  exact rM
 ·have hd:((F:Int) != 139)=true:=du
  simp only [if_neg I];clear I;go_enter func77,ntmps77;go_wp2_with fail;refine Calls.mono HN.u ?_;rintro e w1 ⟨rfl,J,g1⟩;have a:=o.u.gr2 g1 hGp hGz;have k:=a.m1;exact lk
theorem QqZ(h:VO z q p hB zs i hs C w)(hM:Qbq w)(hGp:3<=p)(hGz:3<=z)(h10:C 10=.int .i64 2)(hn:i+8<=8*zs.length):
  Calls prog 77 #[.pointer (some ⟨z,0,none⟩)] w fun e w'=>∃C',(if field (bnum zs) i 8=8 then e=.returned (.tuple #[gF 116 z,.nilIface])/\C'=VE (VE C 12 (.int .u32 (crcU hs ((zs.drop (i/8)).take 1):Nat))) 10 (.int .i64 3) else (∃v,e=.returned (.tuple #[v,flt 3]))/\C'=VE C 12 (.int .u32 (crcU hs ((zs.drop (i/8)).take 1):Nat)))/\VO z q p hB zs (i+8) (crcU hs ((zs.drop (i/8)).take 1)) C' w'/\Gr2 w w' p z:=by
 refine fA ?_;intro HN X hX F Y d;rw [hX,Y] at HN;rw [hX,d];have b:=Qe h10;have o:=Qe hM;clear h hX Y d hM h10;by_cases I:F=8
 ·have hd:((F:Int) != 8)=false:=du
  simp only [if_pos I];clear I;go_enter func77,ntmps77;go_wp2_with fail;refine Calls.mono HN.u ?_;rintro e w1 ⟨rfl,J,g1⟩;have a:=o.u.gr2 g1 hGp hGz;have k:=a.m2;refine iS ?_;intro g;have l:=Qe<|J.set 10 (.int .i64 3) dn dn
  have u:=Qe g1;have f2:=J.gz.f 10;have j:=l.u.1.gz.c 10 dn;rw [Qaa] at j;clear J g1 HN a;go_wp2_with fail;exact bodyPost_ret (v:=.tuple #[gF 116 z,.nilIface]) rN rfl ⟨_,⟨rfl,rfl⟩,l.u.1,u.u.trans l.u.2⟩
 ·have hd:((F:Int) != 8)=true:=du
  simp only [if_neg I];clear I;go_enter func77,ntmps77;go_wp2_with fail;refine Calls.mono HN.u ?_;rintro e w1 ⟨rfl,J,g1⟩;have a:=o.u.gr2 g1 hGp hGz;have k:=a.m2;exact lk
end
section
variable{z q p hB i hs fl:Nat}{zs:List Int}{C:Nat->Value}{w:World}
def GMb(C:Nat->Value)(fl:Nat):Prop:=∃(mt xf os sz:Int) (ae an ac:Option Addr) (ne ce nn cn nc cc:Nat),C 2=.int .i64 (fl:Nat)/\C 3=.int .i64 mt/\C 4=.int .i64 xf/\C 5=.int .i64 os/\C 6=.slice ae ne ce/\C 7=.slice an nn cn/\C 8=.slice ac nc cc/\C 9=.int .i64 sz
theorem VO.below{w':World}(h:VO z q p hB zs i hs C w)(hb:Below w.heap.size w w'):VO z q p hB zs i hs C w'/\Gr2 w w' p z:=by
 have g:=(Gr2.refl w p z).below hb;exact ⟨h.next g (h.gz.below hb) rfl h.c12 h.hs (h.rd.below hb) h.al,g⟩
theorem Qft(h:VO z q p hB zs i hs C w)(hm:GMb C fl)(hf:hfl (fl:Nat) 4=false):
  Calls prog 204 #[.pointer (some ⟨z,0,none⟩)] w fun e w'=>e=.returned (.tuple #[gF 208 z,.nilIface])/\VO z q p hB zs i hs C w'/\Gr2 w w' p z:=by
 refine ed ?_;intro E t r H s I D A J o G L cc m2 m3 m4 m5 m6 m7 m8 g k2 k3 k4 k5 k6 T a k9;have HF:=Qe (fun W=>QB (fl:Nat) E t r H s I D A J o G L cc 4 W);rw [hf] at HF;have b:=Qe h;clear h hf m2 m3 m4 m5 m6 m7 m8 g;go_enter func204,ntmps204;go_wp2_with fail;refine Calls.mono (HF.u _) ?_;rintro e w1 ⟨rfl,hb⟩;have x:=Qe<|b.u.below hb
 clear hb HF b k2 k3 k4 k5 k6 T a k9;go_wp2_with fail;exact bodyPost_ret (v:=.tuple #[gF 208 z,.nilIface]) rO rfl ⟨rfl,x.u.1,x.u.2⟩
theorem Qh2(h:VO z q p hB zs i hs C w)(hm:GMb C fl)(hf:hfl (fl:Nat) 4=true)(hn:¬i+16<=8*zs.length):
  Calls prog 204 #[.pointer (some ⟨z,0,none⟩)] w fun e w'=>(∃v,e=.returned (.tuple #[v,flt 2]))/\VO z q p hB zs i hs (VE C 11 (.int .i64 0)) w'/\Gr2 w w' p z:=by
 refine ed ?_;intro E t r H s I D A J o G L cc m2 m3 m4 m5 m6 m7 m8 g k2 k3 k4 k5 k6 T a k9;have HF:=Qe (fun W=>QB (fl:Nat) E t r H s I D A J o G L cc 4 W);rw [hf] at HF;have b:=Qe h;clear h hf m2 m3 m4 m5 m6 m7 m8 g;go_enter func204,ntmps204;go_wp2_with fail;refine Calls.mono (HF.u _) ?_;rintro e w1 ⟨rfl,hb⟩;have x:=Qe<|b.u.below hb
 have HN:=Qe<|QfG x.u.1 2 dk
 unfold flt at HN;clear hb HF b k2 k3 k4 k5 k6 T a k9;go_wp2_with fail;refine Calls.mono HN.u ?_;rintro e w2 ⟨rfl,h2,g2⟩;have H3:=Qe<|h2.set 11 (.int .i64 0) dn dn
 have G3:=Qe<|(x.u.2.trans g2).trans H3.u.2
 have k:=h2.gz.c 11 dn;have j:=h2.gz.f 11;clear h2 g2 HN;go_wp2_with fail;exact bodyPost_ret (v:=.tuple #[gF 209 z,flt 2]) (by simp [results,results204,go_sem,flt,gF]) rfl ⟨⟨_,rfl⟩,H3.u.1,G3.u⟩
theorem Qgc(h:VO z q p hB zs i hs C w)(hm:GMb C fl)(hf:hfl (fl:Nat) 4=true)(hn:i+16<=8*zs.length):
  Calls prog 204 #[.pointer (some ⟨z,0,none⟩)] w fun e w'=>e=.returned (.tuple #[gF 209 z,.nilIface])/\VO z q p hB zs (i+16) (crcU hs ((zs.drop (i/8)).take 2)) (VE (VE C 12 (.int .u32 (crcU hs ((zs.drop (i/8)).take 2):Nat))) 11 (.int .i64 (field (bnum zs) i 16:Nat))) w'/\Gr2 w w' p z:=by
 refine ed ?_;intro E t r H s I D A J o G L cc m2 m3 m4 m5 m6 m7 m8 g k2 k3 k4 k5 k6 T a k9;have HF:=Qe (fun W=>QB (fl:Nat) E t r H s I D A J o G L cc 4 W);rw [hf] at HF;have b:=Qe h;have ah:=Qe (fun W (hW:VO z q p hB zs i hs C W)=>Qb9 hW 2 dn dn dk);obtain ⟨X,hX⟩:=dt (crcU hs ((zs.drop (i/8)).take 2));obtain ⟨F,Y⟩:=dt (field (bnum zs) i (8*2));have d:field (bnum zs) i 16=F:=Y;rw [hX,Y] at ah;rw [hX,d];clear h hf m2 m3 m4 m5 m6 m7 m8 g hX Y d;go_enter func204,ntmps204;go_wp2_with fail;refine Calls.mono (HF.u _) ?_;rintro e w1 ⟨rfl,hb⟩;have x:=Qe<|b.u.below hb
 have HN:=Qe<|ah.u w1 x.u.1
 clear hb HF b k2 k3 k4 k5 k6 T a k9 ah;go_wp2_with fail;refine Calls.mono HN.u ?_;rintro e w2 ⟨rfl,h2,g2⟩;have H3:=Qe<|h2.set 11 (.int .i64 (F:Nat)) dn dn
 have G3:=Qe<|(x.u.2.trans g2).trans H3.u.2
 have k:=h2.gz.c 11 dn;have j:=h2.gz.f 11;clear h2 g2 HN;go_wp2_with fail;exact bodyPost_ret (v:=.tuple #[gF 209 z,.nilIface]) rO rfl ⟨rfl,H3.u.1,G3.u⟩
theorem QjA(h:VO z q p hB zs i hs C w)(hm:GMb C fl)(hf:hfl (fl:Nat) 8=false):
  Calls prog 208 #[.pointer (some ⟨z,0,none⟩)] w fun e w'=>e=.returned (.tuple #[gF 213 z,.nilIface])/\VO z q p hB zs i hs C w'/\Gr2 w w' p z:=by
 refine ed ?_;intro E t r H s I D A J o G L cc m2 m3 m4 m5 m6 m7 m8 g k2 k3 k4 k5 k6 T a k9;have HF:=Qe (fun W=>QB (fl:Nat) E t r H s I D A J o G L cc 8 W);rw [hf] at HF;have b:=Qe h;clear h hf m2 m3 m4 m5 m6 m7 m8 g;go_enter func208,ntmps208;go_wp2_with fail;refine Calls.mono (HF.u _) ?_;rintro e w1 ⟨rfl,hb⟩;have x:=Qe<|b.u.below hb
 clear hb HF b k2 k3 k4 k5 k6 T a k9;go_wp2_with fail;exact bodyPost_ret (v:=.tuple #[gF 213 z,.nilIface]) (by simp [results,results208,go_sem,gF]) rfl ⟨rfl,x.u.1,x.u.2⟩
theorem Qgz(h:VO z q p hB zs i hs C w)(hm:GMb C fl)(hf:hfl (fl:Nat) 16=false):
  Calls prog 213 #[.pointer (some ⟨z,0,none⟩)] w fun e w'=>e=.returned (.tuple #[gF 216 z,.nilIface])/\VO z q p hB zs i hs C w'/\Gr2 w w' p z:=by
 refine ed ?_;intro E t r H s I D A J o G L cc m2 m3 m4 m5 m6 m7 m8 g k2 k3 k4 k5 k6 T a k9;have HF:=Qe (fun W=>QB (fl:Nat) E t r H s I D A J o G L cc 16 W);rw [hf] at HF;have b:=Qe h;clear h hf m2 m3 m4 m5 m6 m7 m8 g;go_enter func213,ntmps213;go_wp2_with fail;refine Calls.mono (HF.u _) ?_;rintro e w1 ⟨rfl,hb⟩;have x:=Qe<|b.u.below hb
 clear hb HF b k2 k3 k4 k5 k6 T a k9;go_wp2_with fail;exact bodyPost_ret (v:=.tuple #[gF 216 z,.nilIface]) (by simp [results,results213,go_sem,gF]) rfl ⟨rfl,x.u.1,x.u.2⟩
theorem Qip(h:VO z q p hB zs i hs C w)(j:Nat)(v2 v3:Value)(hn:¬i+8<=8*zs.length):
  Calls prog 214 #[.pointer (some ⟨z,0,none⟩),.pointer (some ⟨z,j,none⟩),v2,v3] w fun e w'=>e=.returned (.tuple #[.nilFunc,flt 2])/\VO z q p hB zs i hs C w'/\Gr2 w w' p z:=by
 have HN:=Qe<|QfG h 1 dk
 unfold flt at HN;clear h;go_enter func214,ntmps214;go_wp2_with fail;refine Calls.mono HN.u ?_;rintro e w1 ⟨rfl,J,g1⟩;have x:=Qe J;have u:=Qe g1;clear J g1 HN;go_wp2_with fail;exact bodyPost_ret (v:=.tuple #[.nilFunc,flt 2]) (by simp [results,results214,go_sem,flt]) rfl ⟨rfl,x.u,u.u⟩
theorem QgS(h:VO z q p hB zs i hs C w)(j n2 n3:Nat)(hn:i+8<=8*zs.length)(hF0:field (bnum zs) i 8=0):
  Calls prog 214 #[.pointer (some ⟨z,0,none⟩),.pointer (some ⟨z,j,none⟩),gF n2 z,gF n3 z] w fun e w'=>e=.returned (.tuple #[gF n3 z,.nilIface])/\VO z q p hB zs (i+8) (crcU hs ((zs.drop (i/8)).take 1)) (VE C 12 (.int .u32 (crcU hs ((zs.drop (i/8)).take 1):Nat))) w'/\Gr2 w w' p z:=by
 have HN:=Qe<|Qb9 h 1 dn dn dk
 obtain ⟨X,hX⟩:=dt (crcU hs ((zs.drop (i/8)).take 1));have d:field (bnum zs) i (8*1)=0:=hF0;rw [hX,d] at HN;rw [hX];clear h hX d hF0;unfold gF;go_enter func214,ntmps214;go_wp2_with fail;refine Calls.mono HN.u ?_;rintro e w1 ⟨rfl,J,g1⟩;have x:=Qe J;have u:=Qe g1;clear J g1 HN;go_wp2_with fail;exact bodyPost_ret (v:=.tuple #[gF n3 z,.nilIface]) rP rfl ⟨rfl,x.u,u.u⟩
end
section
variable{z q p hB i hs:Nat}{zs:List Int}{C:Nat->Value}{w:World}
theorem VO.grown{w':World}{row:Option Nat}(h:VO z q p hB zs i hs C w)(hg:w.grownBy w' row)(hz:some z≠row)(hq:some q≠row)(hp:some p≠row)(hb:some hB≠row):VO z q p hB zs i hs C w':=
 ⟨h.gz.grown hg hz,h.c0,h.c12,h.hs,h.zp,h.hz,hg.cell h.m hq,h.qp,h.qz,h.rd.grown hg hp hb,h.al,h.oct,h.len⟩
theorem Qmd(N i:Nat):field N i 8<256:=Nat.mod_lt _ dn
theorem QeN{wr:World}(h:VO z q p hB zs i hs C w)(hg:Gr2 wr w p z)(j n2 n3:Nat)(hj:j≠0/\j≠12/\j<14)(hn:i+8<=8*zs.length)(hF0:field (bnum zs) i 8≠0)(a:Option Addr)(cp:Nat)(L:List Int)(hC:C j=.slice a L.length cp)(hO:Qi 5 wr.heap.size w a cp L)(hLl:L.length<=65536)(hzr:z<wr.heap.size)(hqr:q<wr.heap.size)(hpr:p<wr.heap.size)(hbr:hB<wr.heap.size):
  Calls prog 214 #[.pointer (some ⟨z,0,none⟩),.pointer (some ⟨z,j,none⟩),gF n2 z,gF n3 z] w fun e w'=>e=.returned (.tuple #[gF n2 z,.nilIface])/\∃a' cp' L',L'.length=L.length+1/\VO z q p hB zs (i+8) (crcU hs ((zs.drop (i/8)).take 1)) (VE (VE C 12 (.int .u32 (crcU hs ((zs.drop (i/8)).take 1):Nat))) j (.slice a' L'.length cp')) w'/\Qi 5 wr.heap.size w' a' cp' L'/\Gr2 wr w' p z/\w.heap.size<=w'.heap.size:=by
 refine ei ?_;intro i0 hi af ak aq;have HN:=Qe<|Qb9 h 1 dn dn dk
 have HG:=Qe hg;have HO:=Qe hO;have V:=Qe<|Qi.based hO
 obtain ⟨X,hX⟩:=dt (crcU hs ((zs.drop (i/8)).take 1));obtain ⟨F,Y⟩:=dt (field (bnum zs) i (8*1));have d:field (bnum zs) i 8=F:=Y;have Z:F<256:=by rw [<-d];exact Qmd _ _
 have o:((F:Int) == 0)=false:=by
  rw [d] at hF0;simp;omega
 have ad:IntKind.u8.wrap (F:Int)=(F:Int):=dV;rw [hX,Y] at HN;rw [hX];have HC:=Qe hC;have HJ:=Qe hj;clear h hX Y d hF0 hg hO hC hj;unfold gF;go_enter func214,ntmps214;go_wp2_with fail;refine Calls.mono HN.u ?_;rintro e w1 ⟨rfl,J,g1⟩;have s:=(J.gz.c j HJ.u.2.2).trans (congrArg some ((Ql C _ HJ.u.2.1).trans HC.u));have x:=Qe J;have u:=Qe<|HG.u.trans g1
 have m:w.heap.size<=w1.heap.size:=g1.size;have y:wr.heap.size<=w.heap.size:=HG.u.size;have an:∀k,Qt a=some k->wr.heap.size<=k:=V.u;have O1:dm (Qi 5 wr.heap.size w1 a cp L):=HO.u.keep (fun k e=>by
  have U:=an k e;refine g1.block k ?_ dk dk;rcases HO.u.2 with ⟨h6,_⟩|⟨g',r,M,h6,_,h7,_⟩
  ·simp only [Value.slice.injEq] at h6
   rw [h6.1] at e;cases e
  ·simp only [Value.slice.injEq] at h6
   rw [h6.1] at e;simp [Qt] at e;subst e;exact (Array.getElem?_eq_some_iff.1 h7).1)
 have b:=Qe an;have G:=J.gz.lt;have B:=Qe (fun A t=>O1.u.below ((Below.refl _ _).alloc (Nat.le_refl _) (.cells A t)));clear J g1 HN an HG HO V;go_wp2_with (at_builtin;refine Qm _ rfl _ _ 22 rfl wr.heap.size 5 i0 (.int .u8 0) 1 underlying22 hi af ak aq rfl (.slice a L.length cp) L.length (L.map (Value.int .u8)) rfl (B.u _ _) (some ⟨w1.heap.size,0,none⟩) 1 [(F:Int)] rfl (Qbu w1 F 5) (fun e=>dx) dK du du ?_)
 intro v' w2 R Q aa;have H:w2.ownsRow wr.heap.size 5 1 v' (L.length+1) ((L++[(F:Int)]).map (Value.int .u8)):=eU;obtain ⟨a3,ar,rfl,S⟩:=Qi.of H;rw [QA] at Q;have hA:Below w1.heap.size w1 (w1.alloc (.cells #[.int .u8 (F:Int)] 5)):=(Below.refl _ _).alloc (Nat.le_refl _) _;have n:=(x.u.below hA).1;have hx:∀k,k<wr.heap.size->some k≠Qt a:=fun k U h6=>by have:=b.u k h6.symm;omega
 have l:=n.grown Q (hx z hzr) (hx q hqr) (hx p hpr) (hx hB hbr);have N:=(u.u.below hA).grown Q (fun g e=>.inr (.inr (b.u g e)));have D:w2.cell? ⟨z,j,none⟩=some (.slice a L.length cp):=Q.cell ((hA.cell (p:=⟨z,j,none⟩) G).trans s) (hx z hzr);have E:=l.gz.f j;have H3:=Qe<|l.set j (.slice a3 (L++[(F:Int)]).length ar) HJ.u.1 HJ.u.2.1
 have G3:=Qe<|N.trans H3.u.2
 have g3:=Qf w2 ⟨z,j,none⟩ (.slice a3 (L++[(F:Int)]).length ar);have K:=Qe<|Qi.grown S g3 (fun k e e2=>by simp at e;have:=Qi.based S k e2;omega)
 have I:dm (w.heap.size<=(w2.setCell ⟨z,j,none⟩ (.slice a3 (L++[(F:Int)]).length ar)).heap.size):=Nat.le_trans m (Nat.le_trans hA.size (Nat.le_trans Q.size g3.size));have HL:dm ((L++[(F:Int)]).length=L.length+1):=by show _=_;simp
 clear R H Q aa S hA n l N g3 B O1 hx;generalize L++[(F:Int)]=L2 at*;go_wp2_with fail;exact bodyPost_ret (v:=.tuple #[gF n2 z,.nilIface]) rP rfl ⟨rfl,a3,ar,L2,HL.u,H3.u.1,K.u,G3.u,I.u⟩
end
section
variable{z q p hB i hs fl xs:Nat}{zs:List Int}{C:Nat->Value}{w:World}
theorem Qkc(h:VO z q p hB zs i hs C w)(hm:GMb C fl)(hf:hfl (fl:Nat) 8=true)(Φ:Ending->World->Prop)(ht:∀w1,VO z q p hB zs i hs C w1->Below w.heap.size w w1->Calls prog 214 #[.pointer (some ⟨z,0,none⟩),.pointer (some ⟨z,7,none⟩),gF 208 z,gF 213 z] w1 fun e w2=>(∃v1 v2,e=.returned (.tuple #[v1,v2]))/\Φ e w2):
  Calls prog 208 #[.pointer (some ⟨z,0,none⟩)] w Φ:=by
 refine ed ?_;intro E t r H s I D A J o G L cc m2 m3 m4 m5 m6 m7 m8 g k2 k3 k4 k5 k6 T a k9;have HF:=Qe (fun W=>QB (fl:Nat) E t r H s I D A J o G L cc 8 W);rw [hf] at HF;have b:=Qe h;have HT:=Qe ht;clear h hf m2 m3 m4 m5 m6 m7 m8 g ht;go_enter func208,ntmps208;exact rQ
theorem Qgu(h:VO z q p hB zs i hs C w)(hm:GMb C fl)(hf:hfl (fl:Nat) 16=true)(Φ:Ending->World->Prop)(ht:∀w1,VO z q p hB zs i hs C w1->Below w.heap.size w w1->Calls prog 214 #[.pointer (some ⟨z,0,none⟩),.pointer (some ⟨z,8,none⟩),gF 213 z,gF 216 z] w1 fun e w2=>(∃v1 v2,e=.returned (.tuple #[v1,v2]))/\Φ e w2):
  Calls prog 213 #[.pointer (some ⟨z,0,none⟩)] w Φ:=by
 refine ed ?_;intro E t r H s I D A J o G L cc m2 m3 m4 m5 m6 m7 m8 g k2 k3 k4 k5 k6 T a k9;have HF:=Qe (fun W=>QB (fl:Nat) E t r H s I D A J o G L cc 16 W);rw [hf] at HF;have b:=Qe h;have HT:=Qe ht;clear h hf m2 m3 m4 m5 m6 m7 m8 g ht;go_enter func213,ntmps213;exact rQ
theorem Qfu(h:VO z q p hB zs i hs C w)(h11:C 11=.int .i64 (xs:Nat))(hx:xs<512)(hn:i+8*xs<=8*zs.length):
  Calls prog 209 #[.pointer (some ⟨z,0,none⟩)] w fun e w'=>e=.returned (.tuple #[gF 208 z,.nilIface])/\∃ao n cp,VO z q p hB zs (i+8*xs) (crcU hs ((zs.drop (i/8)).take xs)) (VE (VE C 12 (.int .u32 (crcU hs ((zs.drop (i/8)).take xs):Nat))) 6 (.slice ao n cp)) w'/\Gr2 w w' p z:=by
 have ah:Qh ((zs.drop (i/8)).take xs):=fun v hv=>h.oct v (List.mem_of_mem_drop (List.mem_of_mem_take hv))
 have HD:=Qe<|Qd9 z q p hB zs i xs hs C w h.gz h.c0 h.c12 h.hs h.zp h.m h.rd h.al h.oct h.len hx hn
 have a9:=Qd0 _ h.hs _ ah;have b:=Qe h;obtain ⟨X,hX⟩:=dt (crcU hs ((zs.drop (i/8)).take xs));rw [hX] at HD a9 ⊢;have k:=(h.gz.c 11 dn).trans (congrArg some h11);clear h h11 hX ah;go_enter func209,ntmps209;go_wp2_with fail;refine Calls.mono HD.u ?_;rintro e w2 ⟨Q,bc,w1,rfl,t,P,O,rfl⟩;have j:=Qf w1 ⟨z,12,none⟩ (.int .u32 (X:Nat));have g1:Gr2 w w1 p z:=(Gr2.refl w p z).grown O (fun g e=>lg);have g2:=g1.grown j (fun g e=>iR);have r:=b.u.gz.grown O (by simpa using b.u.zp);have l:VO z q p hB zs (i+8*xs) X (VE C 12 (.int .u32 (X:Nat))) (w1.setCell ⟨z,12,none⟩ (.int .u32 (X:Nat))):=b.u.next g2 (r.set 12 _) (Ql C _ dn) (Qaa C 12 _) a9 (P.grown j rR (by simpa using b.u.hz)) (by have:=b.u.al;omega);have H3:=Qe<|l.set 6 (.slice Q xs bc) dn dn
 have G3:=Qe<|g2.trans H3.u.2
 obtain ⟨w2,E⟩:=dt (w1.setCell ⟨z,12,none⟩ (.int .u32 (X:Nat)));rw [E] at l H3 G3 ⊢;have k6:=l.gz.c 6 dn;have a:=l.gz.f 6;clear t P O j g1 g2 r l b HD E k;go_wp2_with fail;exact bodyPost_ret (v:=.tuple #[gF 208 z,.nilIface]) (by simp [results,results209,go_sem,gF]) rfl ⟨rfl,Q,xs,bc,H3.u.1,G3.u⟩
theorem Qgx(h:VO z q p hB zs i hs C w)(h11:C 11=.int .i64 (xs:Nat))(hn:¬i+8*xs<=8*zs.length):
  Calls prog 209 #[.pointer (some ⟨z,0,none⟩)] w fun e w'=>(∃v,e=.returned (.tuple #[v,flt 2]))/\VO z q p hB zs i hs (VE C 6 (.slice none 0 0)) w'/\Gr2 w w' p z:=by
 have HD:=Qe<|Qew z q p hB zs i xs hs C w h.gz h.c0 h.c12 h.hs h.m h.rd h.al h.len hn
 unfold flt at HD;have b:=Qe h;have k:=(h.gz.c 11 dn).trans (congrArg some h11);clear h h11;go_enter func209,ntmps209;go_wp2_with fail;refine Calls.mono HD.u ?_;rintro e w2 ⟨w1,rfl,hb,rfl⟩;refine rJ ?_;intro j g1 g2;have r:=(b.u.gz.below hb).set 12 (.int .u32 (hs:Nat));rw [QiN C 12 _ b.u.c12] at r;have l:VO z q p hB zs i hs C (w1.setCell ⟨z,12,none⟩ (.int .u32 (hs:Nat))):=b.u.next g2 r rfl b.u.c12 b.u.hs ((b.u.rd.below hb).grown j rR (by simpa using b.u.hz)) b.u.al;have H3:=Qe<|l.set 6 (.slice none 0 0) dn dn
 have G3:=Qe<|g2.trans H3.u.2
 obtain ⟨w2,E⟩:=dt (w1.setCell ⟨z,12,none⟩ (.int .u32 (hs:Nat)));rw [E] at l H3 G3 ⊢;have k6:=l.gz.c 6 dn;have a:=l.gz.f 6;clear hb j g1 g2 r l b HD E k;go_wp2_with fail;exact bodyPost_ret (v:=.tuple #[gF 208 z,flt 2]) (by simp [results,results209,go_sem,flt,gF]) rfl ⟨⟨_,rfl⟩,H3.u.1,G3.u⟩
end
section
variable{z q p hB i hs fl:Nat}{zs:List Int}{C:Nat->Value}{w:World}
theorem VO.went{i':Nat}{w':World}(h:VO z q p hB zs i hs C w)(hg:w.grownBy w' (some p))(hr:Rd w' p hB zs i')(ha:i'%8=0):VO z q p hB zs i' hs C w'/\Gr2 w w' p z:=by
 have g:Gr2 w w' p z:=(Gr2.refl w p z).grown hg (fun g e=>lg);exact ⟨h.next g (h.gz.grown hg (by simpa using h.zp)) rfl h.c12 h.hs hr ha,g⟩
theorem Qiu(h:VO z q p hB zs i hs C w)(hm:GMb C fl)(hf:hfl (fl:Nat) 2=false)(Φ:Value->World->Prop)(ht:∀w1,VO z q p hB zs i hs C w1->Gr2 w w1 p z->Calls prog 109 #[.pointer (some ⟨q,0,none⟩),.int .i64 32768,.slice none 0 0] w1 fun e w2=>∃v,e=.returned v/\Φ v w2):
  Calls prog 216 #[.pointer (some ⟨z,0,none⟩)] w fun e w'=>∃v,e=.returned (.tuple #[v,.nilIface])/\Φ v w':=by
 refine ed ?_;intro E t r H s I D A J o G L cc m2 m3 m4 m5 m6 m7 m8 g k2 k3 k4 k5 k6 T a k9;refine iT ?_;intro HF;rw [hf] at HF;have b:=Qe h;have HT:=Qe ht;clear h hf m2 m3 m4 m5 m6 m7 m8 g ht;go_enter func216,ntmps216;go_wp2_with fail;refine Calls.mono (HF.u _) ?_;rintro e w1 ⟨rfl,hb⟩;have x:=b.u.below hb;have ay:=Qe<|HT.u w1 x.1 x.2
 have k0:=(x.1.gz.c 0 dn).trans (congrArg some x.1.c0);clear hb HF b k2 k3 k4 k5 k6 T a k9 x HT;go_wp2_with fail;refine Calls.mono ay.u ?_;rintro e w2 ⟨v,rfl,hΦ⟩;exact rS
theorem QnG(h:VO z q p hB zs i hs C w)(hm:GMb C fl)(hf:hfl (fl:Nat) 2=true)(hn:¬i+16<=8*zs.length):
  Calls prog 216 #[.pointer (some ⟨z,0,none⟩)] w fun e w'=>e=.returned (.tuple #[.nilFunc,flt 2])/\VO z q p hB zs i hs C w'/\Gr2 w w' p z:=by
 refine ed ?_;intro E t r H s I D A J o G L cc m2 m3 m4 m5 m6 m7 m8 g k2 k3 k4 k5 k6 T a k9;refine iT ?_;intro HF;rw [hf] at HF;have b:=Qe h;clear h hf m2 m3 m4 m5 m6 m7 m8 g;go_enter func216,ntmps216;go_wp2_with fail;refine Calls.mono (HF.u _) ?_;rintro e w1 ⟨rfl,hb⟩;refine ll ?_;intro x k0;have j:=Qe<|Vi q p hB zs i 16 w1 x.u.1.m x.u.1.rd x.u.1.len dn hn
 unfold flt at j;clear hb HF b k2 k3 k4 k5 k6 T a k9;go_wp2_with fail;refine Calls.mono j.u ?_;rintro e w2 ⟨rfl,ah⟩;have l:=Qe<|x.u.1.below ah
 have N:=Qe<|x.u.2.trans l.u.2
 clear ah j k0;go_wp2_with fail;exact bodyPost_ret (v:=.tuple #[.nilFunc,flt 2]) rT rfl ⟨rfl,l.u.1,N.u⟩
theorem Qm0(h:VO z q p hB zs i hs C w)(hm:GMb C fl)(hf:hfl (fl:Nat) 2=true)(hn:i+16<=8*zs.length)(hc:field (bnum zs) i 16≠hs%65536):
  Calls prog 216 #[.pointer (some ⟨z,0,none⟩)] w fun e w'=>e=.returned (.tuple #[.nilFunc,flt 4])/\VO z q p hB zs (i+16) hs C w'/\Gr2 w w' p z:=by
 refine ed ?_;intro E t r H s I D A J o G L cc m2 m3 m4 m5 m6 m7 m8 g k2 k3 k4 k5 k6 T a k9;refine iT ?_;intro HF;rw [hf] at HF;have b:=Qe h;have y:=h.hs;obtain ⟨R,P⟩:=dt (hs%65536);obtain ⟨F,Y⟩:=dt (field (bnum zs) i 16);refine rU ?_;intro n u k;rw [Y,P] at hc;have hd:((F:Int) != (R:Int))=true:=bne_iff_ne.2 (fun e=>hc (Int.ofNat_inj.1 e));have f:=Qe (fun W (hW:VO z q p hB zs i hs C W)=>Q7 q p hB zs i 16 W hW.m hW.rd hW.oct hW.len dn hn);rw [Y] at f;clear h hf m2 m3 m4 m5 m6 m7 m8 g Y P hc;go_enter func216,ntmps216;go_wp2_with fail;refine Calls.mono (HF.u _) ?_;rintro e w1 ⟨rfl,hb⟩;refine ll ?_;intro x k0;have j:=Qe<|f.u w1 x.u.1
 clear hb HF b k2 k3 k4 k5 k6 T a k9 f;go_wp2_with fail;refine Calls.mono j.u ?_;rintro e w2 ⟨rfl,Q,ag⟩;have l:=Qe<|x.u.1.went ag Q (by have:=x.u.1.al;omega)
 have N:=Qe<|x.u.2.trans l.u.2
 have d:=(l.u.1.gz.c 12 dn).trans (congrArg some l.u.1.c12);clear Q ag j k0;go_wp2_with fail;exact bodyPost_ret (v:=.tuple #[.nilFunc,flt 4]) rT rfl ⟨rfl,l.u.1,N.u⟩
theorem QlK(h:VO z q p hB zs i hs C w)(hm:GMb C fl)(hf:hfl (fl:Nat) 2=true)(hn:i+16<=8*zs.length)(hc:field (bnum zs) i 16=hs%65536)(Φ:Value->World->Prop)(ht:∀w1,VO z q p hB zs (i+16) hs C w1->Gr2 w w1 p z->Calls prog 109 #[.pointer (some ⟨q,0,none⟩),.int .i64 32768,.slice none 0 0] w1 fun e w2=>∃v,e=.returned v/\Φ v w2):
  Calls prog 216 #[.pointer (some ⟨z,0,none⟩)] w fun e w'=>∃v,e=.returned (.tuple #[v,.nilIface])/\Φ v w':=by
 refine ed ?_;intro E t r H s I D A J o G L cc m2 m3 m4 m5 m6 m7 m8 g k2 k3 k4 k5 k6 T a k9;refine iT ?_;intro HF;rw [hf] at HF;have b:=Qe h;have HT:=Qe ht;have y:=h.hs;obtain ⟨R,P⟩:=dt (hs%65536);refine rU ?_;intro n u k;have f:=Qe (fun W (hW:VO z q p hB zs i hs C W)=>Q7 q p hB zs i 16 W hW.m hW.rd hW.oct hW.len dn hn);rw [hc,P] at f;clear h hf m2 m3 m4 m5 m6 m7 m8 g P hc ht;go_enter func216,ntmps216;go_wp2_with fail;refine Calls.mono (HF.u _) ?_;rintro e w1 ⟨rfl,hb⟩;refine ll ?_;intro x k0;have j:=Qe<|f.u w1 x.u.1
 clear hb HF b k2 k3 k4 k5 k6 T a k9 f;go_wp2_with fail;refine Calls.mono j.u ?_;rintro e w2 ⟨rfl,Q,ag⟩;have l:=x.u.1.went ag Q (by have:=x.u.1.al;omega);have d:=(l.1.gz.c 12 dn).trans (congrArg some l.1.c12);have B:=(l.1.gz.c 0 dn).trans (congrArg some l.1.c0);have ay:=Qe<|HT.u w2 l.1 (x.u.2.trans l.2)
 clear Q ag j k0 l HT x;go_wp2_with fail;refine Calls.mono ay.u ?_;rintro e w3 ⟨v,rfl,hΦ⟩;exact rS
end
end Go.Proofs.YtgginbpmebgkcaaGreatDoor
