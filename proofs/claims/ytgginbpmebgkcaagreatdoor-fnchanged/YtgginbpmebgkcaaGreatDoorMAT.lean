import Derived.Deep.RegionHeld3
import Derived.Test.YtgginbpmebgkcaaGreatDoorMAD
import Derived.Test.YtgginbpmebgkcaaGreatDoorMAL
import Derived.Test.YtgginbpmebgkcaaGreatDoorMAQ
import Derived.Test.YtgginbpmebgkcaaGreatDoorMAS
namespace Go.Proofs.YtgginbpmebgkcaaGreatDoor
open Go.RowKit Go.Proofs.Tryz
set_option maxRecDepth 100000
set_option maxHeartbeats 25600000
section
variable{w w':World}{g s B q p hB u lo hi:Nat}{aft:Value}{ls ds zs:List Int}
variable {KH : Nat → Option Obj}
attribute [local go_sem ↓] Go.wp_at_zero Go.wp_at_succ
set_option linter.unusedVariables false
structure IC where
 st:Nat
 lc:LC
 t:List Int
 u:List Int
 last:Bool
 stored:Nat
 fx:Bool
 ul:List Int
 ud:List Int
 base:Nat
 extra:Nat
 len:Nat
def ifn(s:Nat):Nat:=if s<=5 then lfn s else if s=6 then 106 else if s=7 then 105 else if s=8 then 182 else if s=9 then 147 else if s=10 then 176 else if s=11 then 148 else if s=12 then 152 else if s=13 then 184 else if s=14 then 195 else 203
def Qay(q:Nat)(aft:Value)(s:Nat):Value:=if s<=15 then .func (Fn.func (ifn s)) #[.pointer (some ⟨q,0,none⟩)] #[] else aft
structure BC(w:World)(u lo hi:Nat)(ls ds:List Int):Prop where
 ge:lo<=u
 lt:u<hi
 le:hi<=w.heap.size
 tabs:∃w0 tl Sl ml Ll td Sd md Ld,w0.heap.size=hi/\(∀k,lo<=k->k<hi->w.heap[k]?=w0.heap[k]?)/\w0.cell? ⟨u,0,none⟩=some (.pointer (some ⟨tl,0,none⟩))/\w0.cell? ⟨u,1,none⟩=some (.pointer (some ⟨td,0,none⟩))/\lo<=tl/\lo<=td/\QaG ls w0 tl Sl ml Ll/\QaG ds w0 td Sd md Ld
theorem BC.keep(h:BC w u lo hi ls ds)(hk:∀k,lo<=k->k<hi->w'.heap[k]?=w.heap[k]?)(hs:w.heap.size<=w'.heap.size):BC w' u lo hi ls ds:=by
 obtain ⟨w0,S,Sl,ml,Ll,td,Sd,md,Ld,J,h2,h3⟩:=h.tabs;exact ⟨h.ge,h.lt,Nat.le_trans h.le hs,w0,S,Sl,ml,Ll,td,Sd,md,Ld,J,fun k k1 k2=>(hk k k1 k2).trans (h2 k k1 k2),h3⟩
theorem BC.now(h:BC w u lo hi ls ds):∃tl Sl ml Ll td Sd md Ld,w.cell? ⟨u,0,none⟩=some (.pointer (some ⟨tl,0,none⟩))/\w.cell? ⟨u,1,none⟩=some (.pointer (some ⟨td,0,none⟩))/\QaG ls w tl Sl ml Ll/\QaG ds w td Sd md Ld:=by
 obtain ⟨w0,tl,Sl,ml,Ll,td,Sd,md,Ld,J,h2,h3,h4,U,h6,h7,h8⟩:=h.tabs;have hb:=h2 u h.ge h.lt;have E:w0.heap.size<=w.heap.size:=by rw [J];exact h.le
 refine ⟨tl,Sl,ml,Ll,td,Sd,md,Ld,(World.cell?_of_block (w:=w0) (a:=⟨u,0,none⟩) hb).trans h3,(World.cell?_of_block (w:=w0) (a:=⟨u,1,none⟩) hb).trans h4,h7.same (fun k k1 k2=>h2 k dk dk) E,h8.same (fun k k1 k2=>h2 k dk dk) E⟩
def F32:List Int:=List.replicate 32 5
structure Qbn(KH:Nat->Option Obj)(q p hB g s B:Nat)(T:Nat->Prop)(aft:Value)(w:World)(c:IC):Prop where
 ne:g≠q/\g≠p/\g≠hB/\¬T g/\¬T q/\¬T p/\¬T hB
 tlt:∀k,T k->k<w.heap.size
 s0:0<s/\s<=32768
 rg:QaH w g s c.t
 c29:w.cell? ⟨q,29,none⟩=some (.pointer (some ⟨g,0,none⟩))
 o30:∃ao cap,w.cell? ⟨q,30,none⟩=some (.slice ao c.u.length cap)/\Qi 5 B w ao cap c.u/\∀k,Qt ao=some k->¬T k/\k≠g/\k≠q/\k≠p/\k≠hB
 c31:w.cell? ⟨q,31,none⟩=some (.bool c.last)
 c32:w.cell? ⟨q,32,none⟩=some (.int .i64 (c.stored:Nat))
 c33:(c.fx=false->w.cell? ⟨q,33,none⟩=some (.pointer none))/\(c.fx=true->∃u lo hi,w.cell? ⟨q,33,none⟩=some (.pointer (some ⟨u,0,none⟩))/\BC w u lo hi F288 F32/\∀k,lo<=k->k<hi->T k/\KH k=none)
 c34:(∃old,w.cell? ⟨q,34,none⟩=some old)/\(12<=c.st->c.st<=15->∃u lo hi,w.cell? ⟨q,34,none⟩=some (.pointer (some ⟨u,0,none⟩))/\BC w u lo hi c.ul c.ud/\∀k,lo<=k->k<hi->T k/\KH k=none)
 c35:w.cell? ⟨q,35,none⟩=some (.int .i64 (c.base:Nat))
 c36:w.cell? ⟨q,36,none⟩=some (.int .i64 (c.extra:Nat))
 c37:w.cell? ⟨q,37,none⟩=some (.int .i64 (c.len:Nat))
 c38:w.cell? ⟨q,38,none⟩=some aft
 kz:∀k o,KH k=some o->T k/\w.heap[k]?=some o
structure Q2(KH:Nat->Option Obj)(q p hB g s B:Nat)(zs:List Int)(aft:Value)(w:World)(c:IC):Prop where
 lm:QH q p hB zs (Qay q aft 6) w c.lc
 ls:(c.st<=6->c.lc.st=c.st)/\(7<=c.st->c.lc.st=0)
 bs:3<=B/\B<=q/\B<=p/\B<=g
 ex:∃T,Qbn KH q p hB g s B T aft w c/\∀v k,w.cell? ⟨q,26,none⟩=some v->v.ownBlock=some k->¬T k/\k≠g/\∀ao n cap,w.cell? ⟨q,30,none⟩=some (.slice ao n cap)->Qt ao≠some k
theorem QaH.keep{t:List Int}(h:QaH w g s t)(hb:w'.heap[g]?=w.heap[g]?):QaH w' g s t:=by
 obtain ⟨W,p,c,J,h2⟩:=h;exact ⟨W,p,c,⟨hb.trans J.heap,J.len⟩,h2⟩
theorem Qi.keep{e:Nat}{ao:Option Addr}{cap:Nat}(h:Qi e B w ao cap zs)(hb:∀k,Qt ao=some k->w'.heap[k]?=w.heap[k]?):Qi e B w' ao cap zs:=oD
theorem Qbn.keep{T:Nat->Prop}{c:IC}(h:Qbn KH q p hB g s B T aft w c)(hs:w.heap.size<=w'.heap.size)(hc:∀o,29<=o->w'.cell? ⟨q,o,none⟩=w.cell? ⟨q,o,none⟩)(ht:∀k,T k->w'.heap[k]?=w.heap[k]?)(hg:w'.heap[g]?=w.heap[g]?)(ho:∀ao n cap k,w.cell? ⟨q,30,none⟩=some (.slice ao n cap)->Qt ao=some k->w'.heap[k]?=w.heap[k]?):Qbn KH q p hB g s B T aft w' c:=by
 refine ⟨h.ne,fun k hk=>Nat.lt_of_lt_of_le (h.tlt k hk) hs,h.s0,h.rg.keep hg,(hc 29 dk).trans h.c29,?_,(hc 31 dk).trans h.c31,(hc 32 dk).trans h.c32,⟨fun e=>(hc 33 dk).trans (h.c33.1 e),fun e=>?_⟩,⟨?_,fun e1 e2=>?_⟩,(hc 35 dk).trans h.c35,(hc 36 dk).trans h.c36,(hc 37 dk).trans h.c37,(hc 38 dk).trans h.c38,fun k o e=>⟨(h.kz k o e).1,(ht k (h.kz k o e).1).trans (h.kz k o e).2⟩⟩
 ·obtain ⟨ao,cap,J,h2,h4⟩:=h.o30
  exact ⟨ao,cap,(hc 30 dk).trans J,h2.keep (fun k e=>ho ao _ cap k J e),h4⟩
 ·obtain ⟨u,lo,hi,J,h2,h3⟩:=h.c33.2 e
  exact ⟨u,lo,hi,(hc 33 dk).trans J,h2.keep (fun k k1 k2=>ht k (h3 k k1 k2).1) hs,h3⟩
 ·obtain ⟨b,J⟩:=h.c34.1
  exact ⟨b,(hc 34 dk).trans J⟩
 ·obtain ⟨u,lo,hi,J,h2,h3⟩:=h.c34.2 e1 e2
  exact ⟨u,lo,hi,(hc 34 dk).trans J,h2.keep (fun k k1 k2=>ht k (h3 k k1 k2).1) hs,h3⟩
theorem Qbn.at30{T:Nat->Prop}{c:IC}(hr:Qbn KH q p hB g s B T aft w c):∀ao n cap k,w.cell? ⟨q,30,none⟩=some (.slice ao n cap)->Qt ao=some k->k<w.heap.size/\¬T k/\k≠g/\k≠q/\k≠p/\k≠hB:=by
 intro ao n cap k e1 e2;obtain ⟨l,K,J,h2,h4⟩:=hr.o30;rw [J] at e1;simp only [Option.some.injEq,Value.slice.injEq] at e1;obtain ⟨rfl,_,rfl⟩:=e1;refine ⟨?_,h4 k e2⟩;rcases h2.2 with ⟨U,_⟩|⟨g',r,M,U,_,h6,_⟩
 ·simp only [Value.slice.injEq] at U
  rw [U.1] at e2;cases e2
 ·simp only [Value.slice.injEq] at U
  rw [U.1] at e2;simp [Qt] at e2;subst e2;exact (Array.getElem?_eq_some_iff.1 h6).1
theorem Q2.trod{c:IC}{c':LC}(h:Q2 KH q p hB g s B zs aft w c)(hT:QJ q p w w')(hM:QH q p hB zs (Qay q aft 6) w' c')(n:Nat)(hn:n<=6\/16<=n)(hl:(n<=6->c'.st=n)/\(7<=n->c'.st=0)):
  Q2 KH q p hB g s B zs aft w' {c with st:=n,lc:=c'}:=by
 obtain ⟨T,y,A⟩:=h.ex;have O:g<w.heap.size:=by obtain ⟨W,p,c,J,_⟩:=y.rg;exact J.lt
 obtain ⟨g1,g2,g3,g4,g5,g6,g7⟩:=y.ne;have a:=y.at30;have d:Qbn KH q p hB g s B T aft w' c:=by
  refine y.keep hT.size hT.rest ?_ ?_ ?_
  ·intro k hk
   exact hT.block k (y.tlt k hk) (fun e=>g5 (e▸hk)) (fun e=>g6 (e▸hk)) (fun v V e=>(A v k V e).1 hk)
  ·exact hT.block g O g1 g2 (fun v V e=>(A v g V e).2.1 rfl)
  ·intro X n G k e1 e2
   obtain ⟨u,x2,x3,x4,x5,x6⟩:=a X n G k e1 e2;exact hT.block k u x4 x5 (fun v V e=>(A v k V e).2.2 X n G e1 e2)
 refine ⟨hM,hl,h.bs,T,?_,?_⟩
 ·exact {d with c34:=⟨d.c34.1,fun e1 e2=>by dsimp only at e1 e2;omega⟩}
 ·intro v k V e
  have b:=hT.rest 30 dk;rcases hT.own v k V e with J|⟨t,J,h2⟩
  ·refine ⟨fun hk=>by have:=y.tlt k hk;omega,dk,fun X n G e1 e2=>?_⟩
   rw [b] at e1;have:=(a X n G k e1 e2).1;omega
  ·obtain ⟨u,x2,x3⟩:=A t k J h2
   refine ⟨u,x2,fun X n G e1=>?_⟩;rw [b] at e1;exact x3 X n G e1
end
section
variable{q p hB g s B:Nat}{zs:List Int}{w w':World}{aft rdy v:Value}{c:IC}
variable {KH : Nat → Option Obj}
attribute [local go_sem ↓] Go.wp_at_zero Go.wp_at_succ
set_option linter.unusedVariables false
theorem QH.kept{c:LC}{row:Option Nat}(h:QH q p hB zs rdy w c)(hst:c.st=0)(hg:w.grownBy w' row)(hq:some q≠row)(hp:some p≠row)(hb:some hB≠row)(h26:∀v k,w.cell? ⟨q,26,none⟩=some v->v.ownBlock=some k->some k≠row)(hG:∀k,row=some k->3<=k):QH q p hB zs rdy w' c:=by
 have ab:=h.lt;have s:=hg.block q ab hq;have I:∀o,w'.cell? ⟨q,o,none⟩=w.cell? ⟨q,o,none⟩:=fun o=>World.cell?_of_block (w:=w) (a:=⟨q,o,none⟩) s
 obtain ⟨B,v,b1,b2,Z,H,b5,b6,b7,b8⟩:=h.own;refine ⟨h.ne,h.neh,h.two,h.rd.grown hg hp hb,(I 0).trans h.c0,?_,(fun k hk=>(I k).trans (h.num k hk)),?_,(I 28).trans h.c28,?_,?_,?_,?_⟩
 ·obtain ⟨b,ho⟩:=h.c1
  exact ⟨b,(I 1).trans ho⟩
 ·obtain ⟨b,ho⟩:=h.c25
  exact ⟨b,(I 25).trans ho⟩
 ·intro k
  rw [World.frozen?_of_block (w:=w) (a:=⟨q,k,none⟩) s];exact h.free k
 ·refine ⟨B,v,b1,b2,Z,Nat.le_trans H hg.size,(I 26).trans b5,?_,b7,fun h4=>dk⟩
  refine b6.kept hg ?_;obtain ⟨_,hx⟩:=b6;rcases hx with ⟨rfl,_⟩|⟨g,G,M,rfl,hb,_⟩
  ·exact .inl rfl
  ·exact .inr (fun e=>h26 _ g b5 rfl (by rw [<-e];rfl))
 ·exact hg.cell h.g0 (fun e=>by have J:3<=1:=hG _ e.symm;omega)
 ·exact fun k hk=>hg.cell (h.g1 k hk) (fun e=>by have J:3<=2:=hG _ e.symm;omega)
theorem QH.set29{c:LC}(h:QH q p hB zs rdy w c)(o':Nat)(ho':29<=o')(v:Value):QH q p hB zs rdy (w.setCell ⟨q,o',none⟩ v) c:=by
 have I:∀o,o<29->(w.setCell ⟨q,o',none⟩ v).cell? ⟨q,o,none⟩=w.cell? ⟨q,o,none⟩:=fun o ho=>World.cell?_setCell_other _ _ _ _ dB
 have O:=Qf w ⟨q,o',none⟩ v;obtain ⟨B,u,b1,b2,Z,H,b5,b6,b7,b8⟩:=h.own;refine ⟨h.ne,h.neh,h.two,h.rd.grown O eJ eM,(I 0 dk).trans h.c0,?_,?_,?_,(I 28 dk).trans h.c28,?_,?_,?_,?_⟩
 ·exact fK
 ·exact fQ
 ·exact fL
 ·exact fM
 ·exact nY
 ·exact fN
 ·exact fP
theorem Q2.went{i':Nat}(h:Q2 KH q p hB g s B zs aft w c)(hr:Rd w' p hB zs i')(hg:w.grownBy w' (some p)):Q2 KH q p hB g s B zs aft w' {c with lc:={c.lc with i:=i'}}:=by
 obtain ⟨T,P,A⟩:=h.ex;obtain ⟨g1,g2,g3,g4,g5,g6,g7⟩:=P.ne;have hq:=h.lm.lt;have I:∀o,w'.cell? ⟨q,o,none⟩=w.cell? ⟨q,o,none⟩:=fun o=>QdG hg hq h.lm.ne o
 refine fi ?_;intro F;refine ⟨h.lm.went hr hg,h.ls,h.bs,T,?_,?_⟩
 ·have hk:=P.keep hg.size (fun o _=>I o) (fun k hk=>hg.block k (P.tlt k hk) (fun e=>g6 (by cases e;exact hk))) (hg.block g F (fun e=>g2 dU)) (fun ao n cap k e1 e2=>by
   obtain ⟨u,x2,x3,x4,x5,x6⟩:=P.at30 ao n cap k e1 e2;exact hg.block k u (fun e=>x5 dU))
  exact {hk with}
 ·exact oF
theorem Q2.below(h:Q2 KH q p hB g s B zs aft w c)(hb:Below w.heap.size w w'):Q2 KH q p hB g s B zs aft w' c:=h.went (h.lm.rd.below hb) (Qk hb (some p))
theorem Q2.setq(h:Q2 KH q p hB g s B zs aft w c)(o:Nat)(ho:o=31\/o=32\/o=35\/o=36\/o=37)(v:Value)(la:Bool)(sto ba ex le:Nat)(h31:(if o=31 then v else .bool c.last)=.bool la)(h32:(if o=32 then v else .int .i64 (c.stored:Nat))=.int .i64 (sto:Nat))(h35:(if o=35 then v else .int .i64 (c.base:Nat))=.int .i64 (ba:Nat))(h36:(if o=36 then v else .int .i64 (c.extra:Nat))=.int .i64 (ex:Nat))(h37:(if o=37 then v else .int .i64 (c.len:Nat))=.int .i64 (le:Nat)):
  Q2 KH q p hB g s B zs aft (w.setCell ⟨q,o,none⟩ v) {c with last:=la,stored:=sto,base:=ba,extra:=ex,len:=le}:=by
 obtain ⟨T,P,A⟩:=h.ex;obtain ⟨g1,g2,g3,g4,g5,g6,g7⟩:=P.ne;have O:=Qf w ⟨q,o,none⟩ v;have I:∀j,j≠o->(w.setCell ⟨q,o,none⟩ v).cell? ⟨q,j,none⟩=w.cell? ⟨q,j,none⟩:=fun j hj=>World.cell?_setCell_other _ _ _ _ dB
 refine fi ?_;intro F;have hb:∀k,k<w.heap.size->k≠q->(w.setCell ⟨q,o,none⟩ v).heap[k]?=w.heap[k]?:=fun k hk hne=>O.block k hk fj
 have aa:∀j (x y:Value),w.cell? ⟨q,j,none⟩=some x->(if o=j then v else x)=y->(w.setCell ⟨q,o,none⟩ v).cell? ⟨q,j,none⟩=some y:=by
  intro j x y J h2;by_cases e:o=j
  ·subst e
   rw [if_pos rfl] at h2;rw [World.cell?_setCell_same _ _ _ J,h2]
  ·rw [if_neg e] at h2
   rw [I j (Ne.symm e),J,h2]
 refine ⟨h.lm.set29 o dk v,h.ls,h.bs,T,?_,?_⟩
 ·refine ⟨P.ne,fun k hk=>Nat.lt_of_lt_of_le (P.tlt k hk) O.size,P.s0,P.rg.keep (hb g F g1),(I 29 dk).trans P.c29,?_,aa 31 _ _ P.c31 h31,aa 32 _ _ P.c32 h32,⟨fun e=>(I 33 dk).trans (P.c33.1 e),fun e=>?_⟩,⟨?_,fun e1 e2=>?_⟩,aa 35 _ _ P.c35 h35,aa 36 _ _ P.c36 h36,aa 37 _ _ P.c37 h37,(I 38 dk).trans P.c38,fun k o' e=>⟨(P.kz k o' e).1,(hb k (P.tlt k (P.kz k o' e).1) (fun e2=>g5 (e2▸(P.kz k o' e).1))).trans (P.kz k o' e).2⟩⟩
  ·obtain ⟨X,G,J,h2,h4⟩:=P.o30
   exact ⟨X,G,(I 30 dk).trans J,h2.keep (fun k e=>hb k (P.at30 _ _ _ k J e).1 (h4 k e).2.2.1),h4⟩
  ·obtain ⟨u,lo,hi,J,h2,h3⟩:=P.c33.2 e
   exact ⟨u,lo,hi,(I 33 dk).trans J,h2.keep (fun k k1 k2=>hb k (P.tlt k (h3 k k1 k2).1) (fun e=>g5 (e▸(h3 k k1 k2).1))) O.size,h3⟩
  ·exact jV
  ·obtain ⟨u,lo,hi,J,h2,h3⟩:=P.c34.2 e1 e2
   exact ⟨u,lo,hi,(I 34 dk).trans J,h2.keep (fun k k1 k2=>hb k (P.tlt k (h3 k k1 k2).1) (fun e=>g5 (e▸(h3 k k1 k2).1))) O.size,h3⟩
 ·exact oG
theorem Q2.at(h:Q2 KH q p hB g s B zs aft w c)(h7:7<=c.st)(n:Nat)(hn:7<=n)(hu:12<=n->n<=15->12<=c.st/\c.st<=15):Q2 KH q p hB g s B zs aft w {c with st:=n}:=by
 obtain ⟨T,P,A⟩:=h.ex;refine ⟨h.lm,⟨fun e=>fk,fun _=>h.ls.2 h7⟩,h.bs,T,?_,A⟩;exact {P with c34:=⟨P.c34.1,fun e1 e2=>P.c34.2 (hu e1 e2).1 (hu e1 e2).2⟩}
theorem Q2.at0(h:Q2 KH q p hB g s B zs aft w c)(h7:7<=c.st):Q2 KH q p hB g s B zs aft w {c with st:=0}:=by
 obtain ⟨T,P,A⟩:=h.ex;refine ⟨h.lm,⟨fun _=>h.ls.2 h7,fun e=>fk⟩,h.bs,T,?_,A⟩;exact {P with c34:=⟨P.c34.1,fun e1 e2=>by dsimp only at e1;omega⟩}
def Qz(KH:Nat->Option Obj)(q p hB g s B:Nat)(zs:List Int)(aft:Value)(r:IC⊕(Int×IC))(e:Ending)(w w':World):Prop:=
 (∀c',r=.inl c'->e=.returned (.tuple #[Qay q aft c'.st,.nilIface])/\Q2 KH q p hB g s B zs aft w' c'/\Below B w w')/\(∀k cf,r=.inr (k,cf)->∃v,e=.returned (.tuple #[v,flt k])/\Q2 KH q p hB g s B zs aft w' cf/\Below B w w')
theorem Qz.ok{c':IC}(hv:v=Qay q aft c'.st)(hM:Q2 KH q p hB g s B zs aft w' c')(hT:Below B w w'):Qz KH q p hB g s B zs aft (.inl c') (.returned (.tuple #[v,.nilIface])) w w':=by
 refine ⟨fun c h=>?_,fun k cf h=>ep⟩;injection h with h;subst h;exact ⟨by rw [hv],hM,hT⟩
theorem Qz.no{cf:IC}{k:Int}(hM:Q2 KH q p hB g s B zs aft w' cf)(hT:Below B w w'):Qz KH q p hB g s B zs aft (.inr (k,cf)) (.returned (.tuple #[v,flt k])) w w':=by
 refine ⟨(fun c h=>ep),fun k' cf' h=>?_⟩;injection h with h;injection h with h1 h2;subst h1 h2;exact ⟨v,rfl,hM,hT⟩
theorem Q2.lt(h:Q2 KH q p hB g s B zs aft w c):q<w.heap.size:=h.lm.lt
theorem Q2.bel(h:Q2 KH q p hB g s B zs aft w c)(hg:w.grownBy w' (some p)):Below B w w':=(Below.refl _ _).grown hg (by have:=h.lt;have:=h.bs;omega) (fun k e=>by cases e;exact h.bs.2.2.1)
theorem Q2.belq(h:Q2 KH q p hB g s B zs aft w c)(o:Nat)(v:Value):Below B w (w.setCell ⟨q,o,none⟩ v):=(Below.refl _ _).grown (Qf w ⟨q,o,none⟩ v) (by have:=h.lt;have:=h.bs;omega) (fun k e=>by simp at e;have:=h.bs;omega)
def QW(c:IC):IC⊕(Int×IC):=if c.last=true then .inl {c with st:=16} else .inl {c with st:=7}
theorem Qhk(q p hB g s B:Nat)(zs:List Int)(aft:Value)(c:IC)(w:World)(hM:Q2 KH q p hB g s B zs aft w c)(hs:c.st=8):
  Calls prog 182 #[.pointer (some ⟨q,0,none⟩)] w fun e w'=>Qz KH q p hB g s B zs aft (QW c) e w w':=by
 have HM:=Qe hM;obtain ⟨T,P,_⟩:=hM.ex;have a:=P.c31;have b:=P.c38;clear P hM;cases hl:c.last with
 | true=>
  rw [hl] at a;have HF:dm (Qz KH q p hB g s B zs aft (QW c) (.returned (.tuple #[aft,.nilIface])) w w):=by
   show Qz _ _ _ _ _ _ _ _ _ _ _ _ _;unfold QW;rw [if_pos hl];exact Qz.ok rfl (HM.u.at dk 16 dk (fun _ h=>dk)) (Below.refl _ _)
  clear hl;go_enter func182,ntmps182;go_wp2_with fail;exact bodyPost_ret (v:=.tuple #[aft,.nilIface]) oH rfl HF.u
 | false=>
  rw [hl] at a;have HF:dm (Qz KH q p hB g s B zs aft (QW c) (.returned (.tuple #[.func (Fn.func 105) #[.pointer (some ⟨q,0,none⟩)] #[],.nilIface])) w w):=by
   show Qz _ _ _ _ _ _ _ _ _ _ _ _ _;unfold QW;rw [if_neg (by rw [hl];decide)];exact Qz.ok rfl (HM.u.at dk 7 dk (fun h _=>dk)) (Below.refl _ _)
  clear hl;go_enter func182,ntmps182;go_wp2_with fail;exact bodyPost_ret (v:=.tuple #[.func (Fn.func 105) #[.pointer (some ⟨q,0,none⟩)] #[],.nilIface]) oH rfl HF.u
end
section
variable {KH : Nat → Option Obj}
attribute [local go_sem ↓] Go.wp_at_zero Go.wp_at_succ
set_option linter.unusedVariables false
theorem Qcx(p hB:Nat)(zs:List Int)(i:Nat)(w:World)(h:Rd w p hB zs i)(hzl:zs.length<=65536):
  Calls prog 110 #[.agg #[.pointer (some ⟨p,0,none⟩)]] w fun e w'=>e=.returned (.tuple #[])/\Rd w' p hB zs ((i+7)/8*8)/\w.grownBy w' (some p):=by
 obtain ⟨hl,an,X,G,E,y,I,hb⟩:=h;refine Calls.mono (Qmz p X (zs.drop (i/8)).length G ((i%8:Nat):Int) (i:Int) w E (Rd.vld hl hzl)) ?_;rintro e w' ⟨rfl,c,O⟩;refine ⟨rfl,?_,O⟩;obtain ⟨n,M⟩:=dt ((8-i%8)%8);have e1:(i+7)/8*8=i+n:=dk;have e2:((((i%8:Nat):Int)+(n:Int))/8).toNat=Qkq ((i%8:Nat):Int):=by
  unfold Qkq;by_cases H:((i%8:Nat):Int)=0
  ·rw [if_pos H];omega
  ·rw [if_neg H];omega
 have R:(((i%8:Nat):Int)+(n:Int))%8=0:=dk;have V:(i:Int)+(n:Int)=(i:Int)+QfB ((i%8:Nat):Int):=by unfold QfB;omega
 rw [e1];refine Rd.moved dk ?_ y I an hb O;rw [e2,R,V];exact c
def Vk(zs:List Int)(c:IC):IC⊕(Int×IC):=
 if c.lc.i+32<=8*zs.length then
  if field (bnum zs) c.lc.i 32/65536+field (bnum zs) c.lc.i 32%65536=65535 then .inl {c with st:=10,stored:=field (bnum zs) c.lc.i 32%65536,lc:={c.lc with i:=c.lc.i+32}}
  else .inr (3,{c with stored:=field (bnum zs) c.lc.i 32%65536,lc:={c.lc with i:=c.lc.i+32}})
 else .inr (2,c)
theorem Qfe(q p hB g s B:Nat)(zs:List Int)(aft:Value)(c:IC)(w:World)(hM:Q2 KH q p hB g s B zs aft w c)(hs:c.st=9)(hz:Qh zs)(hzl:zs.length<=65536):
  Calls prog 147 #[.pointer (some ⟨q,0,none⟩)] w fun e w'=>Qz KH q p hB g s B zs aft (Vk zs c) e w w':=by
 have y:=hM.lt;have HM:=Qe hM;unfold Vk;by_cases M:c.lc.i+32<=8*zs.length
 ·rw [if_pos M]
  have HN:=Qe<|Q7 q p hB zs c.lc.i 32 w hM.lm.c0 hM.lm.rd hz hzl dn M
  have Y:field (bnum zs) c.lc.i 32<4294967296:=Q4 _ _ _;generalize field (bnum zs) c.lc.i 32=F at*;clear hM M;have u:∀w1,Rd w1 p hB zs (c.lc.i+32)->w.grownBy w1 (some p)->Q2 KH q p hB g s B zs aft (w1.setCell ⟨q,32,none⟩ (.int .i64 ((F:Int)%65536))) {c with stored:=F%65536,lc:={c.lc with i:=c.lc.i+32}}/\Below B w (w1.setCell ⟨q,32,none⟩ (.int .i64 ((F:Int)%65536))):=by
   intro w1 P O;have J:=HM.u.went P O;exact ⟨J.setq 32 dk _ c.last (F%65536) c.base c.extra c.len dr dr dr dr dr,(HM.u.bel O).trans (J.belq 32 _)⟩
  have I:=Qe u;clear u;by_cases hx:F/65536+F%65536=65535
  ·rw [if_pos hx]
   have aM:((F:Int)/65536 != 65535-(F:Int)%65536)=false:=du;go_enter func147,ntmps147;go_wp2_with fail;refine Calls.mono HN.u ?_;rintro e w1 ⟨rfl,P,O⟩;have HX:=Qe<|I.u w1 P O
   have J:=HM.u.went P O;obtain ⟨T,d,_⟩:=J.ex;have G:=d.c32;have bj:=J.lm.free 32;clear J d P O HN HM;go_wp2_with fail;exact bodyPost_ret (v:=.tuple #[.func (Fn.func 176) #[.pointer (some ⟨q,0,none⟩)] #[],.nilIface]) (by simp [results,results147,go_sem]) rfl (Qz.ok rfl (HX.u.1.at eO 10 dk (fun h _=>dk)) HX.u.2)
  ·rw [if_neg hx]
   have aM:((F:Int)/65536 != 65535-(F:Int)%65536)=true:=du;go_enter func147,ntmps147;go_wp2_with fail;refine Calls.mono HN.u ?_;rintro e w1 ⟨rfl,P,O⟩;have HX:=Qe<|I.u w1 P O
   have J:=HM.u.went P O;obtain ⟨T,d,_⟩:=J.ex;have G:=d.c32;have bj:=J.lm.free 32;clear J d P O HN HM;go_wp2_with fail;exact bodyPost_ret (v:=.tuple #[.nilFunc,flt 3]) oI rfl (Qz.no HX.u.1 HX.u.2)
 ·rw [if_neg M]
  have HN:=Qe<|Vi q p hB zs c.lc.i 32 w hM.lm.c0 hM.lm.rd hzl dn M
  refine gY ?_;intro o;clear hM M;unfold flt at HN;go_enter func147,ntmps147;go_wp2_with fail;refine Calls.mono HN.u ?_;rintro e w1 ⟨rfl,hb⟩;have I:=Qe<|HM.u.below hb
  have al:=Qe<|hb.mono (show B<=w.heap.size from by have:=o.u;omega)
  clear hb HN HM;go_wp2_with fail;exact bodyPost_ret (v:=.tuple #[.nilFunc,flt 2]) oI rfl (Qz.no I.u al.u)
def Vj(zs:List Int)(c:IC):IC⊕(Int×IC):=
 if c.lc.i+c.extra<=8*zs.length then .inl {c with st:=14,len:=c.base+field (bnum zs) c.lc.i c.extra,lc:={c.lc with i:=c.lc.i+c.extra}}
 else .inr (2,c)
theorem QeV(q p hB g s B:Nat)(zs:List Int)(aft:Value)(c:IC)(w:World)(hM:Q2 KH q p hB g s B zs aft w c)(hs:c.st=13)(hex:c.extra<=5)(hba:c.base<=300)(hz:Qh zs)(hzl:zs.length<=65536):
  Calls prog 184 #[.pointer (some ⟨q,0,none⟩)] w fun e w'=>Qz KH q p hB g s B zs aft (Vj zs c) e w w':=by
 have y:=hM.lt;have HM:=Qe hM;obtain ⟨T,d,_⟩:=hM.ex;have R:=d.c36;unfold Vj;refine fS ?_;intro hd a f j;by_cases M:c.lc.i+c.extra<=8*zs.length
 ·rw [if_pos M]
  have HN:=Qe<|Q7 q p hB zs c.lc.i c.extra w.drew a.lm.c0 a.lm.rd hz hzl dk M
  have Y:field (bnum zs) c.lc.i c.extra<128:=VM _ _ _ dk;generalize field (bnum zs) c.lc.i c.extra=F at*;clear hM M d a;go_enter func184,ntmps184;go_upto_region 1 with fail;go_region_held3 (fun w'=>w'.cell? ⟨q,36,none⟩=some (.int .i64 (c.extra:Nat)))
   (first|(with_reducible assumption)|(go_keep;done))
   ((go_at_call 107;refine Calls.mono HN.u ?_;rintro e w1 ⟨rfl,P,O⟩;have h:=O.cell (show w.drew.cell? ⟨q,36,none⟩=some (.int .i64 (c.extra:Nat)) from R) d7))
  have J:=f.u.went P O;have HX:=Qe<|J.setq 37 dk (.int .i64 ((c.base:Int)+(F:Int))) c.last c.stored c.base c.extra (c.base+F) dr dr dr dr dr
  have HT:=Qe<|(j.u.trans (f.u.bel O)).trans (J.belq 37 (.int .i64 ((c.base:Int)+(F:Int))))
  obtain ⟨T,d,_⟩:=J.ex;have aa:=d.c35;have b:=d.c37;have k:=J.lm.free 37;clear J d P O HN HM R h hd f j;dsimp only at aa b;go_wp2_with fail;exact bodyPost_ret (v:=.tuple #[.func (Fn.func 195) #[.pointer (some ⟨q,0,none⟩)] #[],.nilIface]) (by simp [results,results184,go_sem]) rfl (Qz.ok rfl (HX.u.at eO 14 dk (fun _ _=>⟨by show 12<=c.st;omega,jW⟩)) HT.u)
 ·rw [if_neg M]
  have HN:=Qe<|Vi q p hB zs c.lc.i c.extra w.drew a.lm.c0 a.lm.rd hzl dk M
  refine gY ?_;intro o;clear hM M d a;unfold flt at HN;go_enter func184,ntmps184;go_upto_region 1 with fail;go_region_held3 (fun w'=>w'.cell? ⟨q,36,none⟩=some (.int .i64 (c.extra:Nat)))
   (first|(with_reducible assumption)|(go_keep;done))
   ((go_at_call 107;refine Calls.mono HN.u ?_;rintro e w1 ⟨rfl,hb⟩;have h:=(hb.cell (p:=⟨q,36,none⟩) y).trans (show w.drew.cell? ⟨q,36,none⟩=some (.int .i64 (c.extra:Nat)) from R)))
  have I:=Qe<|f.u.below hb
  have al:=Qe<|j.u.trans (hb.mono (show B<=w.drew.heap.size from oJ))
  clear hb HN HM R h hd f j;go_wp2_with fail;exact bodyPost_ret (v:=.tuple #[.nilFunc,flt 2]) (by simp [results,results184,go_sem,flt]) rfl (Qz.no I.u al.u)
def Vf(zs:List Int)(c:IC):IC⊕(Int×IC):=
 if c.lc.i+3<=8*zs.length then
  if field (bnum zs) c.lc.i 3/2=0 then .inl {c with st:=9,last:=decide (field (bnum zs) c.lc.i 3%2=1),lc:={c.lc with i:=(c.lc.i+3+7)/8*8}}
  else if field (bnum zs) c.lc.i 3/2=1 then .inl {c with st:=11,last:=decide (field (bnum zs) c.lc.i 3%2=1),lc:={c.lc with i:=c.lc.i+3}}
  else if field (bnum zs) c.lc.i 3/2=2 then .inl {c with st:=0,last:=decide (field (bnum zs) c.lc.i 3%2=1),lc:={c.lc with i:=c.lc.i+3}}
  else .inr (3,{c with last:=decide (field (bnum zs) c.lc.i 3%2=1),lc:={c.lc with i:=c.lc.i+3}})
 else .inr (2,c)
theorem Qgo(q p hB g s B:Nat)(zs:List Int)(aft:Value)(c:IC)(w:World)(hM:Q2 KH q p hB g s B zs aft w c)(hs:c.st=7)(hz:Qh zs)(hzl:zs.length<=65536):
  Calls prog 105 #[.pointer (some ⟨q,0,none⟩)] w fun e w'=>Qz KH q p hB g s B zs aft (Vf zs c) e w w':=by
 have y:=hM.lt;have HM:=Qe hM;unfold Vf;by_cases M:c.lc.i+3<=8*zs.length
 ·rw [if_pos M]
  have HN:=Qe<|Q7 q p hB zs c.lc.i 3 w hM.lm.c0 hM.lm.rd hz hzl dn M
  have Y:field (bnum zs) c.lc.i 3<8:=Q4 _ _ _;generalize field (bnum zs) c.lc.i 3=F at*;obtain ⟨j,k⟩:=dt (decide (F%2=1));have ai:((F:Int)%2 == 1)=j:=by
   rw [<-k];by_cases J:F%2=1
   ·rw [decide_eq_true J];simp;omega
   ·rw [decide_eq_false J];simp;omega
  rw [k];clear k;have f:dm (∀w1,Rd w1 p hB zs (c.lc.i+3)->w.grownBy w1 (some p)->Q2 KH q p hB g s B zs aft (w1.setCell ⟨q,31,none⟩ (.bool j)) {c with last:=j,lc:={c.lc with i:=c.lc.i+3}}/\Below B w (w1.setCell ⟨q,31,none⟩ (.bool j))):=by
   intro w1 P O;have J:=HM.u.went P O;exact ⟨J.setq 31 dk _ j c.stored c.base c.extra c.len dr dr dr dr dr,(HM.u.bel O).trans (J.belq 31 _)⟩
  clear hM M;by_cases H:F/2=0
  ·rw [if_pos H]
   have ab:((F:Int)/2 == 0)=true:=du;go_enter func105,ntmps105;go_wp2_with fail;refine Calls.mono HN.u ?_;rintro e w1 ⟨rfl,P,O⟩;have HX:=Qe<|f.u w1 P O
   have J:=HM.u.went P O;obtain ⟨T,d,_⟩:=J.ex;have b:=d.c31;have a:=J.lm.free 31;have q0:=HX.u.1.lm.c0;have AL:=Qe<|Qcx p hB zs (c.lc.i+3) _ HX.u.1.lm.rd hzl
   clear J d P O HN HM f;go_upto_region 7 with fail;generalize w1.setCell ⟨q,31,none⟩ (.bool j)=w2 at*;clear b a;go_wp2_with fail;refine Calls.mono AL.u ?_;rintro e w3 ⟨rfl,m,aw⟩;have r:=Qe<|HX.u.1.went m aw
   have l:=Qe<|HX.u.2.trans (HX.u.1.bel aw)
   clear m aw AL HX q0;go_wp2_with fail;exact bodyPost_ret (v:=.tuple #[.func (Fn.func 147) #[.pointer (some ⟨q,0,none⟩)] #[],.nilIface]) jX rfl (Qz.ok rfl (r.u.at eO 9 dk (fun h _=>dk)) l.u)
  ·rw [if_neg H]
   have ab:((F:Int)/2 == 0)=false:=du;by_cases J:F/2=1
   ·rw [if_pos J]
    have n:((F:Int)/2 == 1)=true:=du;go_enter func105,ntmps105;go_wp2_with fail;refine Calls.mono HN.u ?_;rintro e w1 ⟨rfl,P,O⟩;have HX:=Qe<|f.u w1 P O
    have J:=HM.u.went P O;obtain ⟨T,d,_⟩:=J.ex;have b:=d.c31;have a:=J.lm.free 31;clear J d P O HN HM f;go_wp2_with fail;exact bodyPost_ret (v:=.tuple #[.func (Fn.func 148) #[.pointer (some ⟨q,0,none⟩)] #[],.nilIface]) jX rfl (Qz.ok rfl (HX.u.1.at eO 11 dk (fun h _=>dk)) HX.u.2)
   ·rw [if_neg J]
    have n:((F:Int)/2 == 1)=false:=du;by_cases h2:F/2=2
    ·rw [if_pos h2]
     have t:((F:Int)/2 == 2)=true:=du;go_enter func105,ntmps105;go_wp2_with fail;refine Calls.mono HN.u ?_;rintro e w1 ⟨rfl,P,O⟩;have HX:=Qe<|f.u w1 P O
     have J:=HM.u.went P O;obtain ⟨T,d,_⟩:=J.ex;have b:=d.c31;have a:=J.lm.free 31;clear J d P O HN HM f;go_wp2_with fail;exact bodyPost_ret (v:=.tuple #[.func (Fn.func 149) #[.pointer (some ⟨q,0,none⟩)] #[],.nilIface]) jX rfl (Qz.ok rfl (HX.u.1.at0 eO) HX.u.2)
    ·rw [if_neg h2]
     have t:((F:Int)/2 == 2)=false:=du;go_enter func105,ntmps105;go_wp2_with fail;refine Calls.mono HN.u ?_;rintro e w1 ⟨rfl,P,O⟩;have HX:=Qe<|f.u w1 P O
     have J:=HM.u.went P O;obtain ⟨T,d,_⟩:=J.ex;have b:=d.c31;have a:=J.lm.free 31;clear J d P O HN HM f;go_wp2_with fail;exact bodyPost_ret (v:=.tuple #[.nilFunc,flt 3]) oK rfl (Qz.no HX.u.1 HX.u.2)
 ·rw [if_neg M]
  have HN:=Qe<|Vi q p hB zs c.lc.i 3 w hM.lm.c0 hM.lm.rd hzl dn M
  refine gY ?_;intro o;clear hM M;unfold flt at HN;go_enter func105,ntmps105;go_wp2_with fail;refine Calls.mono HN.u ?_;rintro e w1 ⟨rfl,hb⟩;have I:=Qe<|HM.u.below hb
  have al:=Qe<|hb.mono (show B<=w.heap.size from by have:=o.u;omega)
  clear hb HN HM;go_wp2_with fail;exact bodyPost_ret (v:=.tuple #[.nilFunc,flt 2]) oK rfl (Qz.no I.u al.u)
end
end Go.Proofs.YtgginbpmebgkcaaGreatDoor
