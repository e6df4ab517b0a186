import Derived.Deep.RegionHeld3
import Derived.Test.YtgginbpmebgkcaaGreatDoorMAG
import Derived.Test.YtgginbpmebgkcaaGreatDoorMAX
import Derived.Test.YtgginbpmebgkcaaGreatDoorMBD
import Derived.Test.YtgginbpmebgkcaaGreatDoorMBG
namespace Go.Proofs.YtgginbpmebgkcaaGreatDoor
open Go.RowKit Go.Proofs.Tryz
attribute [local go_sem ↓] Go.wp_at_zero Go.wp_at_succ
set_option linter.unusedVariables false
set_option maxRecDepth 100000
set_option maxHeartbeats 25600000
structure Qlp(w:World)(q p:Nat):Prop where
 c0:w.cell? ⟨q,0,none⟩=some (.pointer (some ⟨p,0,none⟩))
 c1:w.cell? ⟨q,1,none⟩=some (Qay q .nilFunc 7)
 num:∀k,Q8 k->w.cell? ⟨q,k,none⟩=some (.int .i64 0)
 c25:w.cell? ⟨q,25,none⟩=some (.pointer none)
 c26:w.cell? ⟨q,26,none⟩=some (.slice none 0 0)
 c28:w.cell? ⟨q,28,none⟩=some (Qay q .nilFunc 6)
 c29:w.cell? ⟨q,29,none⟩=some (.pointer none)
 c30:w.cell? ⟨q,30,none⟩=some (.slice none 0 0)
 c31:w.cell? ⟨q,31,none⟩=some (.bool false)
 c32:w.cell? ⟨q,32,none⟩=some (.int .i64 0)
 c33:w.cell? ⟨q,33,none⟩=some (.pointer none)
 c34:w.cell? ⟨q,34,none⟩=some (.pointer none)
 c35:w.cell? ⟨q,35,none⟩=some (.int .i64 0)
 c36:w.cell? ⟨q,36,none⟩=some (.int .i64 0)
 c37:w.cell? ⟨q,37,none⟩=some (.int .i64 0)
 c38:w.cell? ⟨q,38,none⟩=some .nilFunc
 f:∀k,w.frozen? ⟨q,k,none⟩=false
theorem Qco(w:World):
  Calls prog 73 #[.pointer none] w fun e w'=>∃q p ao cap,e=.returned (.pointer (some ⟨q,0,none⟩))/\Qlp w' q p/\Src w' p (.slice ao 0 cap) 0 0/\Qi 5 w.heap.size w' ao cap []/\w.heap.size<p/\p<q/\q<w'.heap.size/\Qt ao≠some p/\Qt ao≠some q/\Below w.heap.size w w':=by
 have j:=Qe<|Qfs w
 go_enter func73,ntmps73;go_wp2_with fail;refine Calls.mono j.u ?_;rintro e w1 ⟨p,a1,c1,rfl,E,ho,N,au,an,hb⟩;have f:Below w1.heap.size w1 (w1.alloc (.cells #[.pointer (some ⟨p,0,none⟩),.nilFunc,.int .i64 0,.int .i64 0,.int .i64 0,.int .i64 0,.int .i64 0,.int .i64 0,.int .i64 0,.int .i64 0,.int .i64 0,.int .i64 0,.int .i64 0,.int .i64 0,.int .i64 0,.int .i64 0,.int .i64 0,.int .i64 0,.int .i64 0,.int .i64 0,.int .i64 0,.int .i64 0,.int .i64 0,.int .i64 0,.int .i64 0,.pointer none,.slice none 0 0,.int .i64 0,.nilFunc,.pointer none,.slice none 0 0,.bool false,.int .i64 0,.pointer none,.pointer none,.int .i64 0,.int .i64 0,.int .i64 0,.nilFunc] 76)):=(Below.refl _ _).alloc (Nat.le_refl _) _;have HC:dm (∀i:Nat,(w1.alloc (.cells #[.pointer (some ⟨p,0,none⟩),.nilFunc,.int .i64 0,.int .i64 0,.int .i64 0,.int .i64 0,.int .i64 0,.int .i64 0,.int .i64 0,.int .i64 0,.int .i64 0,.int .i64 0,.int .i64 0,.int .i64 0,.int .i64 0,.int .i64 0,.int .i64 0,.int .i64 0,.int .i64 0,.int .i64 0,.int .i64 0,.int .i64 0,.int .i64 0,.int .i64 0,.int .i64 0,.pointer none,.slice none 0 0,.int .i64 0,.nilFunc,.pointer none,.slice none 0 0,.bool false,.int .i64 0,.pointer none,.pointer none,.int .i64 0,.int .i64 0,.int .i64 0,.nilFunc] 76)).cell? ⟨w1.heap.size,i,none⟩=(#[.pointer (some ⟨p,0,none⟩),.nilFunc,.int .i64 0,.int .i64 0,.int .i64 0,.int .i64 0,.int .i64 0,.int .i64 0,.int .i64 0,.int .i64 0,.int .i64 0,.int .i64 0,.int .i64 0,.int .i64 0,.int .i64 0,.int .i64 0,.int .i64 0,.int .i64 0,.int .i64 0,.int .i64 0,.int .i64 0,.int .i64 0,.int .i64 0,.int .i64 0,.int .i64 0,.pointer none,.slice none 0 0,.int .i64 0,.nilFunc,.pointer none,.slice none 0 0,.bool false,.int .i64 0,.pointer none,.pointer none,.int .i64 0,.int .i64 0,.int .i64 0,.nilFunc]:Array Value)[i]?):=fun i=>dF
 have HZ:dm (∀i:Nat,(w1.alloc (.cells #[.pointer (some ⟨p,0,none⟩),.nilFunc,.int .i64 0,.int .i64 0,.int .i64 0,.int .i64 0,.int .i64 0,.int .i64 0,.int .i64 0,.int .i64 0,.int .i64 0,.int .i64 0,.int .i64 0,.int .i64 0,.int .i64 0,.int .i64 0,.int .i64 0,.int .i64 0,.int .i64 0,.int .i64 0,.int .i64 0,.int .i64 0,.int .i64 0,.int .i64 0,.int .i64 0,.pointer none,.slice none 0 0,.int .i64 0,.nilFunc,.pointer none,.slice none 0 0,.bool false,.int .i64 0,.pointer none,.pointer none,.int .i64 0,.int .i64 0,.int .i64 0,.nilFunc] 76)).frozen? ⟨w1.heap.size,i,none⟩=false):=fun i=>dF
 have l:(w1.alloc (.cells #[.pointer (some ⟨p,0,none⟩),.nilFunc,.int .i64 0,.int .i64 0,.int .i64 0,.int .i64 0,.int .i64 0,.int .i64 0,.int .i64 0,.int .i64 0,.int .i64 0,.int .i64 0,.int .i64 0,.int .i64 0,.int .i64 0,.int .i64 0,.int .i64 0,.int .i64 0,.int .i64 0,.int .i64 0,.int .i64 0,.int .i64 0,.int .i64 0,.int .i64 0,.int .i64 0,.pointer none,.slice none 0 0,.int .i64 0,.nilFunc,.pointer none,.slice none 0 0,.bool false,.int .i64 0,.pointer none,.pointer none,.int .i64 0,.int .i64 0,.int .i64 0,.nilFunc] 76)).heap.size=w1.heap.size+1:=dr;have S1:=Qe<|E.grown (Qk f none) dr
 have O1:=Qe<|Qi.below ho f
 have B1:=Qe<|hb.trans (f.mono hb.size)
 have L1:dm (∀k,Qt a1=some k->k<w1.heap.size):=by
  intro k e;cases a1 with
  | none=>cases e
  | some ad=>
   have:=(ho.mine.lies ad rfl).2.1;exact fd
 have b:=Qe an;have a0:w.heap.size<=w1.heap.size:=hb.size;clear E ho hb an f j;go_upto_region 2 with fail;obtain ⟨q,hq⟩:=dt w1.heap.size;rw [hq] at HC HZ l L1 au a0 ⊢;generalize w1.alloc (.cells #[.pointer (some ⟨p,0,none⟩),.nilFunc,.int .i64 0,.int .i64 0,.int .i64 0,.int .i64 0,.int .i64 0,.int .i64 0,.int .i64 0,.int .i64 0,.int .i64 0,.int .i64 0,.int .i64 0,.int .i64 0,.int .i64 0,.int .i64 0,.int .i64 0,.int .i64 0,.int .i64 0,.int .i64 0,.int .i64 0,.int .i64 0,.int .i64 0,.int .i64 0,.int .i64 0,.pointer none,.slice none 0 0,.int .i64 0,.nilFunc,.pointer none,.slice none 0 0,.bool false,.int .i64 0,.pointer none,.pointer none,.int .i64 0,.int .i64 0,.int .i64 0,.nilFunc] 76)=W1 at*;clear hq;have k1:W1.cell? ⟨q,1,none⟩=some .nilFunc:=HC.u 1;have ah:W1.cell? ⟨q,28,none⟩=some .nilFunc:=HC.u 28;have X:=HZ.u 1;have y:q<W1.heap.size:=dk;have h:=Qai W1 ⟨q,1,none⟩ (Fn.func 105) #[.pointer (some ⟨q,0,none⟩)] #[] _ k1 X;have a:(W1.setCell ⟨q,1,none⟩ (.func (Fn.func 105) #[.pointer (some ⟨q,0,none⟩)] #[])).cell? ⟨q,28,none⟩=some .nilFunc:=(World.cell?_setCell_other _ _ _ _ dr).trans ah;have c:(W1.setCell ⟨q,1,none⟩ (.func (Fn.func 105) #[.pointer (some ⟨q,0,none⟩)] #[])).frozen? ⟨q,28,none⟩=false:=by rw [World.frozen?_setCell];exact HZ.u 28
 have d:=Qai (W1.setCell ⟨q,1,none⟩ (.func (Fn.func 105) #[.pointer (some ⟨q,0,none⟩)] #[])) ⟨q,28,none⟩ (Fn.func 106) #[.pointer (some ⟨q,0,none⟩)] #[] _ a c;have g:q<(W1.setCell ⟨q,1,none⟩ (.func (Fn.func 105) #[.pointer (some ⟨q,0,none⟩)] #[])).heap.size:=by simpa using y
 have g1:=Qf W1 ⟨q,1,none⟩ (.func (Fn.func 105) #[.pointer (some ⟨q,0,none⟩)] #[]);have g2:=Qf (W1.setCell ⟨q,1,none⟩ (.func (Fn.func 105) #[.pointer (some ⟨q,0,none⟩)] #[])) ⟨q,28,none⟩ (.func (Fn.func 106) #[.pointer (some ⟨q,0,none⟩)] #[]);have I:∀o v,o≠1->o≠28->(#[.pointer (some ⟨p,0,none⟩),.nilFunc,.int .i64 0,.int .i64 0,.int .i64 0,.int .i64 0,.int .i64 0,.int .i64 0,.int .i64 0,.int .i64 0,.int .i64 0,.int .i64 0,.int .i64 0,.int .i64 0,.int .i64 0,.int .i64 0,.int .i64 0,.int .i64 0,.int .i64 0,.int .i64 0,.int .i64 0,.int .i64 0,.int .i64 0,.int .i64 0,.int .i64 0,.pointer none,.slice none 0 0,.int .i64 0,.nilFunc,.pointer none,.slice none 0 0,.bool false,.int .i64 0,.pointer none,.pointer none,.int .i64 0,.int .i64 0,.int .i64 0,.nilFunc]:Array Value)[o]?=some v->((W1.setCell ⟨q,1,none⟩ (.func (Fn.func 105) #[.pointer (some ⟨q,0,none⟩)] #[])).setCell ⟨q,28,none⟩ (.func (Fn.func 106) #[.pointer (some ⟨q,0,none⟩)] #[])).cell? ⟨q,o,none⟩=some v:=by
  intro o v J h2 h3;rw [World.cell?_setCell_other _ _ _ _ dB,World.cell?_setCell_other _ _ _ _ dB,HC.u o];exact h3
 have az:dm (Qlp ((W1.setCell ⟨q,1,none⟩ (.func (Fn.func 105) #[.pointer (some ⟨q,0,none⟩)] #[])).setCell ⟨q,28,none⟩ (.func (Fn.func 106) #[.pointer (some ⟨q,0,none⟩)] #[])) q p):=by
  refine ⟨I 0 _ dk dk rfl,?_,fun k hk=>?_,I 25 _ dk dk rfl,I 26 _ dk dk rfl,World.cell?_setCell_same _ _ _ a,I 29 _ dk dk rfl,I 30 _ dk dk rfl,I 31 _ dk dk rfl,I 32 _ dk dk rfl,I 33 _ dk dk rfl,I 34 _ dk dk rfl,I 35 _ dk dk rfl,I 36 _ dk dk rfl,I 37 _ dk dk rfl,I 38 _ dk dk rfl,fun k=>?_⟩
  ·rw [World.cell?_setCell_other _ _ _ _ dr]
   exact World.cell?_setCell_same _ _ _ k1
  ·have h3:k=2\/k=3\/k=4\/k=5\/k=6\/k=7\/k=8\/k=9\/k=10\/k=11\/k=12\/k=13\/k=14\/k=15\/k=16\/k=17\/k=18\/k=19\/k=20\/k=21\/k=22\/k=23\/k=24\/k=27:=by unfold Q8 at hk;omega
   rcases h3 with rfl|rfl|rfl|rfl|rfl|rfl|rfl|rfl|rfl|rfl|rfl|rfl|rfl|rfl|rfl|rfl|rfl|rfl|rfl|rfl|rfl|rfl|rfl|rfl<;>exact I _ _ dk dk rfl
  ·rw [World.frozen?_setCell,World.frozen?_setCell]
   exact HZ.u k
 have S3:=Qe<|(S1.u.grown g1 du).grown g2 du
 have K:=Qe<|(Qi.grown O1.u g1 (fun k e e2=>by have:=L1.u k e2;simp at e;omega)).grown g2 (fun k e e2=>by have:=L1.u k e2;simp at e;omega)
 have B3:=Qe<|(B1.u.grown g1 dk (fun k e=>dJ)).grown g2 (by have:=g1.size;omega) (fun k e=>dJ)
 have z3:q<((W1.setCell ⟨q,1,none⟩ (.func (Fn.func 105) #[.pointer (some ⟨q,0,none⟩)] #[])).setCell ⟨q,28,none⟩ (.func (Fn.func 106) #[.pointer (some ⟨q,0,none⟩)] #[])).heap.size:=by have:=g1.size;have:=g2.size;omega
 have HQ:dm (Qt a1≠some q):=fun e=>by have:=L1.u q e;omega
 clear I g1 g2 S1 O1 B1 L1 HC HZ k1 ah X l;go_wp2_with fail;go_ret;exact ⟨q,p,a1,c1,rfl,az.u,S3.u,K.u,dk,au,z3,b.u,HQ.u,B3.u⟩
section
variable{w w':World}{q p:Nat}{n1 a38:Value}
structure Qak(w:World)(q p:Nat)(n1 a38:Value):Prop where
 c0:w.cell? ⟨q,0,none⟩=some (.pointer (some ⟨p,0,none⟩))
 c1:w.cell? ⟨q,1,none⟩=some n1
 num:∀k,Q8 k->w.cell? ⟨q,k,none⟩=some (.int .i64 0)
 c25:w.cell? ⟨q,25,none⟩=some (.pointer none)
 c26:w.cell? ⟨q,26,none⟩=some (.slice none 0 0)
 c28:w.cell? ⟨q,28,none⟩=some (Qay q .nilFunc 6)
 c29:w.cell? ⟨q,29,none⟩=some (.pointer none)
 c30:w.cell? ⟨q,30,none⟩=some (.slice none 0 0)
 c31:w.cell? ⟨q,31,none⟩=some (.bool false)
 c32:w.cell? ⟨q,32,none⟩=some (.int .i64 0)
 c33:w.cell? ⟨q,33,none⟩=some (.pointer none)
 c34:w.cell? ⟨q,34,none⟩=some (.pointer none)
 c35:w.cell? ⟨q,35,none⟩=some (.int .i64 0)
 c36:w.cell? ⟨q,36,none⟩=some (.int .i64 0)
 c37:w.cell? ⟨q,37,none⟩=some (.int .i64 0)
 c38:w.cell? ⟨q,38,none⟩=some a38
 f:∀k,w.frozen? ⟨q,k,none⟩=false
theorem Qlp.z(h:Qlp w q p):Qak w q p (Qay q .nilFunc 7) .nilFunc:=
 ⟨h.c0,h.c1,h.num,h.c25,h.c26,h.c28,h.c29,h.c30,h.c31,h.c32,h.c33,h.c34,h.c35,h.c36,h.c37,h.c38,h.f⟩
theorem Qak.same(h:Qak w q p n1 a38)(hb:w'.heap[q]?=w.heap[q]?):Qak w' q p n1 a38:=by
 have I:∀o,w'.cell? ⟨q,o,none⟩=w.cell? ⟨q,o,none⟩:=fun o=>World.cell?_of_block (w:=w) (a:=⟨q,o,none⟩) hb
 exact ⟨(I 0).trans h.c0,(I 1).trans h.c1,fun k hk=>(I k).trans (h.num k hk),(I 25).trans h.c25,(I 26).trans h.c26,(I 28).trans h.c28,(I 29).trans h.c29,(I 30).trans h.c30,(I 31).trans h.c31,(I 32).trans h.c32,(I 33).trans h.c33,(I 34).trans h.c34,(I 35).trans h.c35,(I 36).trans h.c36,(I 37).trans h.c37,(I 38).trans h.c38,fun k=>(World.frozen?_of_block (w:=w) (a:=⟨q,k,none⟩) hb).trans (h.f k)⟩
theorem Qg5{k:Nat}(h:Q8 k):k≠1/\k≠38:=by
 unfold Q8 at h;omega
theorem Qak.set1(h:Qak w q p n1 a38)(v:Value):Qak (w.setCell ⟨q,1,none⟩ v) q p v a38:=by
 have M:∀j,j≠1->(w.setCell ⟨q,1,none⟩ v).cell? ⟨q,j,none⟩=w.cell? ⟨q,j,none⟩:=fun j hj=>World.cell?_setCell_other _ _ _ _ dB
 exact ⟨(M 0 dn).trans h.c0,World.cell?_setCell_same _ _ _ h.c1,fun k hk=>(M k (Qg5 hk).1).trans (h.num k hk),(M 25 dn).trans h.c25,(M 26 dn).trans h.c26,(M 28 dn).trans h.c28,(M 29 dn).trans h.c29,(M 30 dn).trans h.c30,(M 31 dn).trans h.c31,(M 32 dn).trans h.c32,(M 33 dn).trans h.c33,(M 34 dn).trans h.c34,(M 35 dn).trans h.c35,(M 36 dn).trans h.c36,(M 37 dn).trans h.c37,(M 38 dn).trans h.c38,fun k=>iH⟩
theorem Qak.set38(h:Qak w q p n1 a38)(v:Value):Qak (w.setCell ⟨q,38,none⟩ v) q p n1 v:=by
 have M:∀j,j≠38->(w.setCell ⟨q,38,none⟩ v).cell? ⟨q,j,none⟩=w.cell? ⟨q,j,none⟩:=fun j hj=>World.cell?_setCell_other _ _ _ _ dB
 exact ⟨(M 0 dn).trans h.c0,(M 1 dn).trans h.c1,fun k hk=>(M k (Qg5 hk).2).trans (h.num k hk),(M 25 dn).trans h.c25,(M 26 dn).trans h.c26,(M 28 dn).trans h.c28,(M 29 dn).trans h.c29,(M 30 dn).trans h.c30,(M 31 dn).trans h.c31,(M 32 dn).trans h.c32,(M 33 dn).trans h.c33,(M 34 dn).trans h.c34,(M 35 dn).trans h.c35,(M 36 dn).trans h.c36,(M 37 dn).trans h.c37,World.cell?_setCell_same _ _ _ h.c38,fun k=>iH⟩
structure QaK(w:World)(z q:Nat)(dv:Value)(sz:Int):Prop where
 z0:w.cell? ⟨z,0,none⟩=some (.pointer (some ⟨q,0,none⟩))
 z1:w.cell? ⟨z,1,none⟩=some dv
 z2:w.cell? ⟨z,2,none⟩=some (.int .i64 sz)
 zf:∀k,w.frozen? ⟨z,k,none⟩=false
theorem QaK.same{z:Nat}{dv:Value}{sz:Int}(h:QaK w z q dv sz)(hb:w'.heap[z]?=w.heap[z]?):QaK w' z q dv sz:=by
 have I:∀o,w'.cell? ⟨z,o,none⟩=w.cell? ⟨z,o,none⟩:=fun o=>World.cell?_of_block (w:=w) (a:=⟨z,o,none⟩) hb
 exact ⟨(I 0).trans h.z0,(I 1).trans h.z1,(I 2).trans h.z2,fun k=>(World.frozen?_of_block (w:=w) (a:=⟨z,k,none⟩) hb).trans (h.zf k)⟩
def QdL(z:Nat):Value:=.func (Fn.func 74) #[.pointer (some ⟨z,0,none⟩)] #[]
def Qc7(z:Nat):Value:=.func (Fn.func 75) #[.pointer (some ⟨z,0,none⟩)] #[]
theorem QdW(ao:Option Addr)(nd cd:Nat)(w:World):
  Calls prog 34 #[.slice ao nd cd] w fun e w'=>∃z q p a1 c1,e=.returned (.pointer (some ⟨z,0,none⟩))/\QaK w' z q (.slice ao nd cd) 0/\Qak w' q p (QdL z) (Qc7 z)/\Src w' p (.slice a1 0 c1) 0 0/\Qi 5 w.heap.size w' a1 c1 []/\w.heap.size<=p/\p<q/\q<z/\z<w'.heap.size/\Qt a1≠some p/\Qt a1≠some q/\Qt a1≠some z/\Below w.heap.size w w':=by
 have j:=Qe<|Qco w
 go_enter func34,ntmps34;go_wp2_with fail;refine Calls.mono j.u ?_;rintro e w1 ⟨q,p,a1,c1,rfl,hN,hS,hO,N,D,hq,V,a,hb⟩;have o:Below w1.heap.size w1 (w1.alloc (.cells #[.pointer (some ⟨q,0,none⟩),.slice ao nd cd,.int .i64 0] 60)):=(Below.refl _ _).alloc (Nat.le_refl _) _;have N1:=Qe<|hN.z.same (o.block q hq)
 have S1:=Qe<|hS.grown (Qk o none) dr
 have O1:=Qe<|Qi.below hO o
 have B1:=Qe<|hb.trans (o.mono hb.size)
 have ZC:dm (QaK (w1.alloc (.cells #[.pointer (some ⟨q,0,none⟩),.slice ao nd cd,.int .i64 0] 60)) w1.heap.size q (.slice ao nd cd) 0):=by
  refine ⟨?_,?_,?_,fun k=>?_⟩<;>simp [go_sem]
 have zz:(w1.alloc (.cells #[.pointer (some ⟨q,0,none⟩),.slice ao nd cd,.int .i64 0] 60)).heap.size=w1.heap.size+1:=dr;refine qy ?_;intro HL b a0;clear hN hS hO hb o j V a;go_upto_region 2 with fail;obtain ⟨z,r⟩:=dt w1.heap.size;rw [r] at ZC zz HL hq a0 ⊢;generalize w1.alloc (.cells #[.pointer (some ⟨q,0,none⟩),.slice ao nd cd,.int .i64 0] 60)=W1 at*;clear r;have ab:q<z:=hq;have h:=Qai W1 ⟨q,1,none⟩ (Fn.func 74) #[.pointer (some ⟨z,0,none⟩)] #[] _ N1.u.c1 (N1.u.f 1);have N2:=Qe<|N1.u.set1 (QdL z)
 have g1:=Qf W1 ⟨q,1,none⟩ (QdL z);have Z2:=Qe<|ZC.u.same (g1.block z dk du)
 have d:=Qai (W1.setCell ⟨q,1,none⟩ (QdL z)) ⟨q,38,none⟩ (Fn.func 75) #[.pointer (some ⟨z,0,none⟩)] #[] _ N2.u.c38 (N2.u.f 38);have N3:=Qe<|N2.u.set38 (Qc7 z)
 have g2:=Qf (W1.setCell ⟨q,1,none⟩ (QdL z)) ⟨q,38,none⟩ (Qc7 z);have L:W1.heap.size<=(W1.setCell ⟨q,1,none⟩ (QdL z)).heap.size:=g1.size;refine qA ?_;intro I S3 K B3;have Z:z<((W1.setCell ⟨q,1,none⟩ (QdL z)).setCell ⟨q,38,none⟩ (Qc7 z)).heap.size:=by have:=g2.size;omega
 have k0:=ZC.u.z0;have g:=Z2.u.z0;unfold QdL at N2 Z2 d g N3 I S3 K B3 Z L;unfold Qc7 at N3 I S3 K B3 Z;exact qB
end
end Go.Proofs.YtgginbpmebgkcaaGreatDoor
namespace Go.Proofs.YtgginbpmebgkcaaGreatDoor
open Go.RowKit Go.Proofs.Tryz
set_option maxRecDepth 100000
set_option maxHeartbeats 25600000
section
variable{w:World}{q p:Nat}{n1 a38:Value}
variable {KH : Nat → Option Obj}
attribute [local go_sem ↓] Go.wp_at_zero Go.wp_at_succ
set_option linter.unusedVariables false
structure Qly(w:World)(q p g:Nat)(n1 a38:Value):Prop where
 c0:w.cell? ⟨q,0,none⟩=some (.pointer (some ⟨p,0,none⟩))
 c1:w.cell? ⟨q,1,none⟩=some n1
 num:∀k,Q8 k->w.cell? ⟨q,k,none⟩=some (.int .i64 0)
 c25:w.cell? ⟨q,25,none⟩=some (.pointer none)
 c26:w.cell? ⟨q,26,none⟩=some (.slice none 0 0)
 c28:w.cell? ⟨q,28,none⟩=some (Qay q .nilFunc 6)
 c29:w.cell? ⟨q,29,none⟩=some (.pointer (some ⟨g,0,none⟩))
 c30:w.cell? ⟨q,30,none⟩=some (.slice none 0 0)
 c31:w.cell? ⟨q,31,none⟩=some (.bool false)
 c32:w.cell? ⟨q,32,none⟩=some (.int .i64 0)
 c33:w.cell? ⟨q,33,none⟩=some (.pointer none)
 c34:w.cell? ⟨q,34,none⟩=some (.pointer none)
 c35:w.cell? ⟨q,35,none⟩=some (.int .i64 0)
 c36:w.cell? ⟨q,36,none⟩=some (.int .i64 0)
 c37:w.cell? ⟨q,37,none⟩=some (.int .i64 0)
 c38:w.cell? ⟨q,38,none⟩=some a38
 f:∀k,w.frozen? ⟨q,k,none⟩=false
def icA(i:Nat)(t:List Int):IC:=⟨7,lc0 i,t,[],false,0,false,[],[],0,0,0⟩
theorem Qly.mem{hB g s B i:Nat}{zs t:List Int}(h:Qly w q p g n1 a38)(hne:q≠p)(hbq:hB≠q)(hgq:g≠q)(hgp:g≠p)(hgb:g≠hB)(hG:3<=B)(bq:B<=q)(bp:B<=p)(bg:B<=g)(bb:3<=hB)(hbw:hB<w.heap.size)(hs:0<s/\s<=32768)(hr:Rd w p hB zs i)(hT:QaH w g s t)(hGl:QfE w)(hK:∀k o,KH k=some o->w.heap[k]?=some o/\k≠q/\k≠p/\k≠g/\k≠hB):Q2 KH q p hB g s B zs a38 w (icA i t):=by
 refine ⟨⟨hne,hbq,⟨dk,dk,bb⟩,hr,h.c0,⟨_,h.c1⟩,h.num,⟨_,h.c25⟩,h.c28,h.f,⟨w.heap.size,_,World.block_lt_of_cell? w _ h.c0,hr.lt,hbw,Nat.le_refl _,h.c26,⟨rfl,.inl ⟨rfl,rfl⟩⟩,fun h1=>absurd h1 (by show ¬(1:Nat)<=0;omega),fun h1=>absurd h1 (by show ¬(4:Nat)<=0;omega)⟩,hGl.g0,hGl.g1⟩,⟨fun h1=>absurd h1 (by show ¬(7:Nat)<=6;omega),fun _=>rfl⟩,⟨hG,bq,bp,bg⟩,fun k=>KH k≠none,?_,?_⟩
 ·have hx:∀k,KH k≠none->k<w.heap.size/\k≠q/\k≠p/\k≠g/\k≠hB:=fun k h1=>by
   cases h2:KH k with
   | none=>exact absurd h2 h1
   | some o=>exact ⟨(Array.getElem?_eq_some_iff.1 (hK k o h2).1).1,(hK k o h2).2⟩
  refine ⟨⟨hgq,hgp,hgb,fun h=>(hx _ h).2.2.2.1 rfl,fun h=>(hx _ h).2.1 rfl,fun h=>(hx _ h).2.2.1 rfl,fun h=>(hx _ h).2.2.2.2 rfl⟩,fun k h=>(hx k h).1,hs,hT,h.c29,⟨none,0,h.c30,⟨rfl,.inl ⟨rfl,rfl⟩⟩,fun k e=>dx⟩,h.c31,h.c32,⟨fun _=>h.c33,fun e=>dx⟩,⟨⟨_,h.c34⟩,fun e1 _=>absurd e1 (by show ¬(12:Nat)<=7;omega)⟩,h.c35,h.c36,h.c37,h.c38,fun k o e=>⟨by rw [e];simp,(hK k o e).1⟩⟩
 ·intro v k e1 e2
  rw [h.c26] at e1;cases e1
  cases e2
theorem Qnb{k:Nat}(h:Q8 k):k≠29:=by
 unfold Q8 at h;omega
theorem Qak.ring(h:Qak w q p n1 a38)(g:Nat):Qly (w.setCell ⟨q,29,none⟩ (.pointer (some ⟨g,0,none⟩))) q p g n1 a38:=by
 have M:∀j,j≠29->(w.setCell ⟨q,29,none⟩ (.pointer (some ⟨g,0,none⟩))).cell? ⟨q,j,none⟩=w.cell? ⟨q,j,none⟩:=fun j hj=>World.cell?_setCell_other _ _ _ _ dB
 exact ⟨(M 0 dn).trans h.c0,(M 1 dn).trans h.c1,fun k hk=>(M k (Qnb hk)).trans (h.num k hk),(M 25 dn).trans h.c25,(M 26 dn).trans h.c26,(M 28 dn).trans h.c28,World.cell?_setCell_same _ _ _ h.c29,(M 30 dn).trans h.c30,(M 31 dn).trans h.c31,(M 32 dn).trans h.c32,(M 33 dn).trans h.c33,(M 34 dn).trans h.c34,(M 35 dn).trans h.c35,(M 36 dn).trans h.c36,(M 37 dn).trans h.c37,(M 38 dn).trans h.c38,fun k=>iH⟩
def Qbl(q p s:Nat)(n1 a38:Value)(t:List Int)(e:Ending)(w w':World):Prop:=∃g,e=.returned (Qay q a38 7)/\Qly w' q p g n1 a38/\QaH w' g s t/\w.heap.size<=g/\g<w'.heap.size/\w.grownBy w' (some q)
theorem Qei(q p s:Nat)(n1 a38:Value)(d:List Int)(bo:Option Addr)(cb:Nat)(w:World)(h:Qak w q p n1 a38)(hs0:0<s)(hs1:s<=32768)(hr:Q1 w bo d)(hdf:d.length<=cb)(hdc:cb<=maxLen)(hdb:∀ad,bo=some ad->ad.block<w.heap.size):
  Calls prog 109 #[.pointer (some ⟨q,0,none⟩),.int .i64 (s:Nat),.slice bo d.length cb] w fun e w'=>Qbl q p s n1 a38 (lastN s d) e w w':=by
 have k:=Qe<|Qeo s d bo cb w hs0 hs1 hr hdf hdc hdb
 have y:q<w.heap.size:=World.block_lt_of_cell? w _ h.c0;have HN:=Qe h;clear hr hdf hdc hdb h;go_enter func109,ntmps109;go_wp2_with fail;refine Calls.mono k.u ?_;rintro e w1 ⟨g,rfl,H,I,b,j⟩;have b1:=j.mono H;have N1:=Qe<|HN.u.same (b1.block q y)
 have V:dm (QaH w1 g s (lastN s d)):=b;have u:=Qe<|Qk b1 (some q)
 have r:w.heap.size<=w1.heap.size:=b1.size;have i:=N1.u.c29;have l:=N1.u.f 29;have R2:=Qe<|N1.u.ring g
 have g2:=Qf w1 ⟨q,29,none⟩ (.pointer (some ⟨g,0,none⟩));have n:=Qe<|V.u.keep (g2.block g I du)
 have N:=Qe<|Qj u.u g2
 have aq:g<(w1.setCell ⟨q,29,none⟩ (.pointer (some ⟨g,0,none⟩))).heap.size:=Nat.lt_of_lt_of_le I g2.size;clear b j b1 k HN N1 V u g2;go_wp2_with fail;go_ret;exact ⟨g,rfl,R2.u,n.u,H,aq,N.u⟩
end
end Go.Proofs.YtgginbpmebgkcaaGreatDoor
namespace Go.Proofs.YtgginbpmebgkcaaGreatDoor
open Go.RowKit Go.Proofs.Tryz
attribute [local go_sem ↓] Go.wp_at_zero Go.wp_at_succ
set_option linter.unusedVariables false
set_option maxRecDepth 100000
set_option maxHeartbeats 25600000
theorem QbA(z q p hB:Nat)(zs:List Int)(i:Nat)(w:World)(hz0:w.cell? ⟨z,0,none⟩=some (.pointer (some ⟨q,0,none⟩)))(hm:w.cell? ⟨q,0,none⟩=some (.pointer (some ⟨p,0,none⟩)))(h:Rd w p hB zs i)(hz:Qh zs)(hzl:zs.length<=65536)(hn:i+32<=8*zs.length):
  Calls prog 111 #[.pointer (some ⟨z,0,none⟩)] w fun e w'=>e=.returned (.tuple #[.int .u32 (rb4 (field (bnum zs) i 32):Nat),.nilIface])/\Rd w' p hB zs (i+32)/\w.grownBy w' (some p):=by
 have HN:=Qe<|Q7 q p hB zs i 32 w hm h hz hzl dn hn
 have Y:field (bnum zs) i 32<4294967296:=Q4 _ _ _;generalize field (bnum zs) i 32=F at*;have HR:=Qe (fun W=>Qfq F Y W);have aR:IntKind.u32.wrap (F:Int)=(F:Int):=kM;clear h;go_enter func111,ntmps111;go_wp2_with fail;refine Calls.mono HN.u ?_;rintro e w1 ⟨rfl,P,O⟩;have R1:=Qe P;have u:=Qe O;clear P O HN;go_wp2_with fail;refine Calls.mono (HR.u _) ?_;rintro e w2 ⟨rfl,E⟩;obtain rfl:=E.symm;go_wp2_with fail;go_ret2;exact ⟨rfl,R1.u,u.u⟩
theorem Qdv(z q p hB:Nat)(zs:List Int)(i:Nat)(w:World)(hz0:w.cell? ⟨z,0,none⟩=some (.pointer (some ⟨q,0,none⟩)))(hm:w.cell? ⟨q,0,none⟩=some (.pointer (some ⟨p,0,none⟩)))(h:Rd w p hB zs i)(hzl:zs.length<=65536)(hn:¬i+32<=8*zs.length):
  Calls prog 111 #[.pointer (some ⟨z,0,none⟩)] w fun e w'=>e=.returned (.tuple #[.int .u32 0,flt 2])/\Below w.heap.size w w':=by
 have HN:=Qe<|Vi q p hB zs i 32 w hm h hzl dn hn
 have HR:=Qe (fun W=>Qfq 0 dn W);rw [show rb4 0=0 from rfl] at HR;clear h;go_enter func111,ntmps111;go_wp2_with fail;refine Calls.mono HN.u ?_;rintro e w1 ⟨rfl,hb⟩;have B1:=Qe hb;clear hb HN;go_wp2_with fail;refine Calls.mono (HR.u _) ?_;rintro e w2 ⟨rfl,E⟩;obtain rfl:=E.symm;go_wp2_with fail;go_ret2;exact ⟨rfl,B1.u⟩
end Go.Proofs.YtgginbpmebgkcaaGreatDoor
namespace Go.Proofs.YtgginbpmebgkcaaGreatDoor
open Go.RowKit Go.Proofs.Tryz
set_option maxRecDepth 100000
set_option maxHeartbeats 25600000
section
variable {KH : Nat → Option Obj}
attribute [local go_sem ↓] Go.wp_at_zero Go.wp_at_succ
set_option linter.unusedVariables false
def QbD(F:Nat):Bool:=decide ((256*(F%256)+F/256)%31≠0\/F%256%16≠8\/7<F%256/16)
def zsz(F:Nat):Nat:=2^(F%256/16+8)
def Qcg(F:Nat):Bool:=bits .and .i64 ((F/256:Nat):Int) 32 != 0
theorem QhJ{F:Nat}(h:QbD F=false):0<zsz F/\zsz F<=32768:=by
 have h2:=of_decide_eq_false h;unfold zsz;exact ⟨Nat.two_pow_pos _,Nat.le_trans (Nat.pow_le_pow_right dn (show F%256/16+8<=15 by omega)) dn⟩
def QkR(z:Nat):Value:=.func (Fn.func 108) #[.pointer (some ⟨z,0,none⟩)] #[]
theorem Qpq(z q p hB:Nat)(zs:List Int)(i:Nat)(w:World)(hz0:w.cell? ⟨z,0,none⟩=some (.pointer (some ⟨q,0,none⟩)))(hm:w.cell? ⟨q,0,none⟩=some (.pointer (some ⟨p,0,none⟩)))(h:Rd w p hB zs i)(hzl:zs.length<=65536)(hn:¬i+16<=8*zs.length):
  Calls prog 74 #[.pointer (some ⟨z,0,none⟩)] w fun e w'=>e=.returned (.tuple #[.nilFunc,flt 2])/\Below w.heap.size w w':=by
 have HN:=Qe<|Vi q p hB zs i 16 w hm h hzl dn hn
 clear h;unfold flt at HN;go_enter func74,ntmps74;go_wp2_with fail;refine Calls.mono HN.u ?_;rintro e w1 ⟨rfl,hb⟩;have B1:=Qe hb;clear hb HN;go_wp2_with fail;exact bodyPost_ret (v:=.tuple #[.nilFunc,flt 2]) qC rfl ⟨rfl,B1.u⟩
theorem Qoi(z q p hB:Nat)(zs:List Int)(i:Nat)(w:World)(hz0:w.cell? ⟨z,0,none⟩=some (.pointer (some ⟨q,0,none⟩)))(hm:w.cell? ⟨q,0,none⟩=some (.pointer (some ⟨p,0,none⟩)))(h:Rd w p hB zs i)(hz:Qh zs)(hzl:zs.length<=65536)(hn:i+16<=8*zs.length)(hbad:QbD (field (bnum zs) i 16)=true):
  Calls prog 74 #[.pointer (some ⟨z,0,none⟩)] w fun e w'=>e=.returned (.tuple #[.nilFunc,flt 3])/\Rd w' p hB zs (i+16)/\w.grownBy w' (some p):=by
 refine kN ?_;intro HN Y;generalize field (bnum zs) i 16=F at*;refine kO ?_;intro M hM G X I hI;have hb:=of_decide_eq_true hbad;rw [hM,X,hI] at hb;have A:(F:Int)%256=(M:Int):=dk;have d:(F:Int)/256=(G:Int):=dk;have W:(M:Int)/16=(I:Int):=dk;have aF:G<256:=dk;clear h hbad hM X hI;by_cases c1:(256*M+G)%31=0
 ·by_cases c2:M%16=8
  ·have d1:((256*(M:Int)+(G:Int))%31 != 0)=false:=du
   have d2:((M:Int)%16 != 8)=false:=du;have d3:decide ((I:Int) > 7)=true:=decide_eq_true dk;clear hb c1 c2;exact kP
  ·have d1:((256*(M:Int)+(G:Int))%31 != 0)=false:=du
   have d2:((M:Int)%16 != 8)=true:=du;clear hb c1 c2;exact kP
 ·have d1:((256*(M:Int)+(G:Int))%31 != 0)=true:=du
  clear hb c1;exact kP
theorem QaK.size{w:World}{z q:Nat}{dv:Value}{sz:Int}(h:QaK w z q dv sz)(x:Int):QaK (w.setCell ⟨z,2,none⟩ (.int .i64 x)) z q dv x:=
 ⟨(World.cell?_setCell_other _ _ _ _ dr).trans h.z0,(World.cell?_setCell_other _ _ _ _ dr).trans h.z1,World.cell?_setCell_same _ _ _ h.z2,fun k=>by rw [World.frozen?_setCell];exact h.zf k⟩
theorem Qmh(z q p hB:Nat)(zs:List Int)(i:Nat)(dv:Value)(sz:Int)(w:World)(hZ:QaK w z q dv sz)(hzp:z≠p)(hm:w.cell? ⟨q,0,none⟩=some (.pointer (some ⟨p,0,none⟩)))(h:Rd w p hB zs i)(hz:Qh zs)(hzl:zs.length<=65536)(hn:i+16<=8*zs.length)(hbad:QbD (field (bnum zs) i 16)=false)(hdic:Qcg (field (bnum zs) i 16)=true):
  Calls prog 74 #[.pointer (some ⟨z,0,none⟩)] w fun e w'=>e=.returned (.tuple #[QkR z,.nilIface])/\∃w1,Rd w1 p hB zs (i+16)/\w.grownBy w1 (some p)/\w'=w1.setCell ⟨z,2,none⟩ (.int .i64 (zsz (field (bnum zs) i 16):Nat)):=by
 refine kN ?_;intro HN Y;have af:=hZ.z0;have al:=World.block_lt_of_cell? w _ af;have HZ:=Qe hZ;generalize field (bnum zs) i 16=F at*;obtain ⟨S,hS⟩:=dt (zsz F);rw [hS];unfold zsz at hS;unfold Qcg at hdic;refine kO ?_;intro M hM G X I hI;have hb:=of_decide_eq_false hbad;rw [hM,X,hI] at hb;rw [X] at hdic;rw [hM,hI] at hS;refine qD ?_;intro A d W aF k d1 d2 d3 K hK c;rw [hK] at hS;have HW:dm (wrap64 ((2:Int)^K)=(S:Int)):=qE;clear h hbad hM X hI hb;go_enter func74,ntmps74;go_wp2_with fail;refine Calls.mono HN.u ?_;rintro e w1 ⟨rfl,P,O⟩;refine kQ ?_;intro R1 u r;have k2:=r.u.z2;have f2:=r.u.zf 2;clear P O HN HZ af;go_upto_region 8 with fail;clear d1 d2 d3 A W;go_upto_region 9 with fail;rw [HW.u];clear HW hS c;go_wp2_with fail;exact bodyPost_ret (v:=.tuple #[QkR z,.nilIface]) (by simp [results,results74,go_sem,QkR]) rfl ⟨rfl,w1,R1.u,u.u,rfl⟩
theorem Qkn(z q p hB:Nat)(zs:List Int)(i:Nat)(dv n1 a38:Value)(sz:Int)(w:World)(hZ:QaK w z q dv sz)(hN:Qak w q p n1 a38)(hzp:z≠p)(hzq:z≠q)(hqp:q≠p)(h:Rd w p hB zs i)(hz:Qh zs)(hzl:zs.length<=65536)(hn:i+16<=8*zs.length)(hbad:QbD (field (bnum zs) i 16)=false)(hdic:Qcg (field (bnum zs) i 16)=false):
  Calls prog 74 #[.pointer (some ⟨z,0,none⟩)] w fun e w'=>e=.returned (.tuple #[Qay q a38 7,.nilIface])/\∃w1,Rd w1 p hB zs (i+16)/\w.grownBy w1 (some p)/\Qbl q p (zsz (field (bnum zs) i 16)) n1 a38 (lastN (zsz (field (bnum zs) i 16)) []) (.returned (Qay q a38 7)) (w1.setCell ⟨z,2,none⟩ (.int .i64 (zsz (field (bnum zs) i 16):Nat))).drew w':=by
 have hm:=hN.c0;have C:=QhJ hbad;have L:=Qe hN;refine kN ?_;intro HN Y;have af:=hZ.z0;have al:=World.block_lt_of_cell? w _ af;have y:=World.block_lt_of_cell? w _ hm;have HZ:=Qe hZ;generalize field (bnum zs) i 16=F at*;obtain ⟨S,hS⟩:=dt (zsz F);rw [hS];unfold zsz at hS;unfold Qcg at hdic;refine kO ?_;intro M hM G X I hI;have hb:=of_decide_eq_false hbad;rw [hM,X,hI] at hb;rw [X] at hdic;rw [hM,hI] at hS;refine qD ?_;intro A d W aF k d1 d2 d3 K hK c;rw [hK] at hS;have HW:dm (wrap64 ((2:Int)^K)=(S:Int)):=qE;have aa:0<S/\S<=32768:=by rw [<-hK,<-hI,<-hM] at hS;rw [<-hS];exact C
 clear h hbad hM X hI hb C hN;go_enter func74,ntmps74;go_wp2_with fail;refine Calls.mono HN.u ?_;rintro e w1 ⟨rfl,P,O⟩;refine kQ ?_;intro R1 u r;have k2:=r.u.z2;have f2:=r.u.zf 2;have Z2:=Qe<|r.u.size (S:Int)
 have g2:=Qf w1 ⟨z,2,none⟩ (.int .i64 (S:Int));have N2:=Qe<|((L.u.same (O.block q y (by simpa using hqp))).same (g2.block q (Nat.lt_of_lt_of_le y O.size) (by simpa using fun e=>hzq e.symm)))
 clear P O HN HZ af L hm g2;go_upto_region 8 with fail;clear d1 d2 d3 A W;go_upto_region 9 with fail;rw [HW.u];clear HW hS c;have j:=Qe<|Qei q p S n1 a38 [] none 0 (w1.setCell ⟨z,2,none⟩ (.int .i64 (S:Int))).drew (N2.u.same rfl) aa.1 aa.2 (Q1.nil _ _) (Nat.le_refl _) dy (fun ad e=>dx)
 obtain ⟨W2,x⟩:=dt (w1.setCell ⟨z,2,none⟩ (.int .i64 (S:Int)));rw [x] at Z2 N2 j ⊢;have f:=Qe x;have t:=Z2.u.z0;have z2:=Z2.u.z2;have aq:=World.block_lt_of_cell? W2 _ t;clear x k2 f2 r;go_upto_region 11 with fail;go_region_held3 (fun w'=>w'.cell? ⟨z,0,none⟩=some (.pointer (some ⟨q,0,none⟩))/\w'.cell? ⟨z,2,none⟩=some (.int .i64 (S:Int))/\z<w'.heap.size)
  (first|(with_reducible assumption)|(go_keep;done)|(exact ⟨dC,dC,dC⟩))
  ((go_at_call 109;refine Calls.mono j.u ?_;rintro e w3 ⟨g,rfl,m,o,aw,b,a⟩;have K:w3.cell? ⟨z,0,none⟩=some (.pointer (some ⟨q,0,none⟩))/\w3.cell? ⟨z,2,none⟩=some (.int .i64 (S:Int))/\z<w3.heap.size:=⟨a.cell (show W2.drew.cell? ⟨z,0,none⟩=_ from t) ew,a.cell (show W2.drew.cell? ⟨z,2,none⟩=_ from z2) ew,Nat.lt_of_lt_of_le aq a.size⟩;obtain ⟨K1,K2,K3⟩:=K))
 have l:dm (Qbl q p S n1 a38 (lastN S []) (.returned (Qay q a38 7)) W2.drew w3):=⟨g,rfl,m,o,aw,b,a⟩;clear m o aw b a K1 K2 K3 j;go_wp2_with fail;exact bodyPost_ret (v:=.tuple #[Qay q a38 7,.nilIface]) (by simp [results,results74,go_sem]) rfl ⟨rfl,w1,R1.u,u.u,by rw [f.u];exact l.u⟩
end
section
variable {KH : Nat → Option Obj}
attribute [local go_sem ↓] Go.wp_at_zero Go.wp_at_succ
set_option linter.unusedVariables false
theorem Qbp(q n cap:Nat)(ao:Option Addr)(w:World)(h:w.cell? ⟨q,30,none⟩=some (.slice ao n cap))(hn:n<=cap)(hc:cap<=maxLen)(h0:ao=none->n=0/\cap=0):
  Calls prog 112 #[.pointer (some ⟨q,0,none⟩),.int .i64 0] w fun e w'=>e=.returned (.slice ao n cap)/\w'=w:=by
 unfold maxLen at hc;go_enter func112,ntmps112;exact ey
theorem Qkh(z q p hB:Nat)(zs:List Int)(i:Nat)(w:World)(hz0:w.cell? ⟨z,0,none⟩=some (.pointer (some ⟨q,0,none⟩)))(hm:w.cell? ⟨q,0,none⟩=some (.pointer (some ⟨p,0,none⟩)))(h:Rd w p hB zs i)(hzl:zs.length<=65536)(hn:¬i+32<=8*zs.length):
  Calls prog 108 #[.pointer (some ⟨z,0,none⟩)] w fun e w'=>e=.returned (.tuple #[.nilFunc,flt 2])/\Below w.heap.size w w':=by
 have HN:=Qe<|Qdv z q p hB zs i w hz0 hm h hzl hn
 clear h;unfold flt at HN;go_enter func108,ntmps108;go_wp2_with fail;refine Calls.mono HN.u ?_;rintro e w1 ⟨rfl,hb⟩;have B1:=Qe hb;clear hb HN;go_wp2_with fail;exact bodyPost_ret (v:=.tuple #[.nilFunc,flt 2]) qF rfl ⟨rfl,B1.u⟩
theorem Qj0(z q p hB:Nat)(zs d:List Int)(i cb:Nat)(bo:Option Addr)(sz:Int)(w:World)(hZ:QaK w z q (.slice bo d.length cb) sz)(hzp:z≠p)(hm:w.cell? ⟨q,0,none⟩=some (.pointer (some ⟨p,0,none⟩)))(h:Rd w p hB zs i)(hz:Qh zs)(hzl:zs.length<=65536)(hn:i+32<=8*zs.length)(hr:Q1 w bo d)(hd:Qh d)(hcb:d.length<=cb)(hld:d.length<=65536)(hbp:∀ad,bo=some ad->ad.block≠p)(hbad:d=[]\/((rb4 (field (bnum zs) i 32):Nat):Int)≠Adl.adl d):
  Calls prog 108 #[.pointer (some ⟨z,0,none⟩)] w fun e w'=>e=.returned (.tuple #[.nilFunc,flt 5])/\Rd w' p hB zs (i+32)/\w.grownBy w' (some p):=by
 have af:=hZ.z0;have HN:=Qe<|QbA z q p hB zs i w af hm h hz hzl hn
 have al:=World.block_lt_of_cell? w _ af;have HZ:=Qe hZ;have HR:=Qe hr;generalize rb4 (field (bnum zs) i 32)=F at*;have AD:=Qe (fun W h=>QbL bo cb d d.length rfl W h hd hcb hld);have c:=Qe hbp;by_cases he:d=[]
 ·subst he
  clear h hr hZ hd hbp hbad AD;go_enter func108,ntmps108;go_wp2_with fail;refine Calls.mono HN.u ?_;rintro e w1 ⟨rfl,P,O⟩;refine kR ?_;intro R1 u r;have k1:=r.u.z1;clear P O HN HZ af;exact qG
 ·obtain ⟨Y,hY⟩:∃Y:Nat,Adl.adl d=(Y:Int):=⟨(Adl.adl d).toNat,kS⟩
  rw [hY] at AD hbad;have an:((F:Int) != (Y:Int))=true:=by
   rcases hbad with h|h
   ·exact absurd h he
   ·simpa using h
  have t:((d.length:Int) == 0)=false:=by
   simp;omega
  clear h hr hZ hd hbp hbad hY;go_enter func108,ntmps108;go_wp2_with fail;refine Calls.mono HN.u ?_;rintro e w1 ⟨rfl,P,O⟩;refine kR ?_;intro R1 u r;have M:=Qe<|HR.u.grown O (fun ad e=>by simpa using c.u ad e)
  have k1:=r.u.z1;clear P O HN HZ af;go_wp2_with fail;refine Calls.mono (AD.u _ M.u) ?_;rintro e w2 ⟨rfl,E⟩;obtain rfl:=E.symm;exact qG
theorem QjY(z q p hB S:Nat)(zs d:List Int)(i cb:Nat)(bo:Option Addr)(n1 a38:Value)(w:World)(hZ:QaK w z q (.slice bo d.length cb) (S:Nat))(hN:Qak w q p n1 a38)(hzp:z≠p)(hzq:z≠q)(hqp:q≠p)(h:Rd w p hB zs i)(hz:Qh zs)(hzl:zs.length<=65536)(hn:i+32<=8*zs.length)(hS0:0<S)(hS1:S<=32768)(hr:Q1 w bo d)(hd:Qh d)(hcb:d.length<=cb)(hcm:cb<=maxLen)(hld:d.length<=65536)(hbp:∀ad,bo=some ad->ad.block≠p/\ad.block<w.heap.size)(he:d≠[])(hok:((rb4 (field (bnum zs) i 32):Nat):Int)=Adl.adl d):
  Calls prog 108 #[.pointer (some ⟨z,0,none⟩)] w fun e w'=>e=.returned (.tuple #[Qay q a38 7,.nilIface])/\∃w1,Rd w1 p hB zs (i+32)/\w.grownBy w1 (some p)/\Qbl q p S n1 a38 (lastN S d) (.returned (Qay q a38 7)) w1.drew w':=by
 have af:=hZ.z0;have hm:=hN.c0;have HN:=Qe<|QbA z q p hB zs i w af hm h hz hzl hn
 have al:=World.block_lt_of_cell? w _ af;have y:=World.block_lt_of_cell? w _ hm;have HZ:=Qe hZ;have L:=Qe hN;have HR:=Qe hr;generalize rb4 (field (bnum zs) i 32)=F at*;have AD:=Qe (fun W h=>QbL bo cb d d.length rfl W h hd hcb hld);have c:=Qe hbp;have j:=Qe (fun W h1 h2 h3=>Qei q p S n1 a38 d bo cb W h1 hS0 hS1 h2 hcb hcm h3);rw [<-hok] at AD;have t:((d.length:Int) == 0)=false:=by
  simp;omega
 clear h hr hZ hd hbp hok hN hm;go_enter func108,ntmps108;go_wp2_with fail;refine Calls.mono HN.u ?_;rintro e w1 ⟨rfl,P,O⟩;refine kR ?_;intro R1 u r;have M:=Qe<|HR.u.grown O (fun ad e=>by simpa using (c.u ad e).1)
 have N1:=Qe<|L.u.same (O.block q y (by simpa using hqp))
 have k1:=r.u.z1;have k0:=r.u.z0;have k2:=r.u.z2;have G:=World.block_lt_of_cell? w1 _ k1;have D:=O.size;clear P O HN HZ af L;go_upto_region 4 with fail;go_wp2_with fail;refine Calls.mono (AD.u _ M.u) ?_;rintro e w2 ⟨rfl,E⟩;obtain rfl:=E.symm;have B1:=Qe<|j.u w1.drew (N1.u.same rfl) (M.u.below (Below.refl _ _).drew) (fun ad e=>Nat.lt_of_lt_of_le (c.u ad e).2 D)
 go_upto_region 6 with fail;go_region_held3 (fun w'=>w'.cell? ⟨z,0,none⟩=some (.pointer (some ⟨q,0,none⟩))/\w'.cell? ⟨z,1,none⟩=some (.slice bo d.length cb)/\w'.cell? ⟨z,2,none⟩=some (.int .i64 (S:Int))/\z<w'.heap.size)
  (first|(with_reducible assumption)|(go_keep;done)|(exact ⟨dC,dC,dC,dC⟩))
  ((go_at_call 109;refine Calls.mono B1.u ?_;rintro e w3 ⟨g,rfl,m,o,aw,b,a⟩;have K:w3.cell? ⟨z,0,none⟩=some (.pointer (some ⟨q,0,none⟩))/\w3.cell? ⟨z,1,none⟩=some (.slice bo d.length cb)/\w3.cell? ⟨z,2,none⟩=some (.int .i64 (S:Int))/\z<w3.heap.size:=⟨a.cell (show w1.drew.cell? ⟨z,0,none⟩=_ from k0) ew,a.cell (show w1.drew.cell? ⟨z,1,none⟩=_ from k1) ew,a.cell (show w1.drew.cell? ⟨z,2,none⟩=_ from k2) ew,Nat.lt_of_lt_of_le G a.size⟩;obtain ⟨K1,K2,K3,K4⟩:=K))
 have l:dm (Qbl q p S n1 a38 (lastN S d) (.returned (Qay q a38 7)) w1.drew w3):=⟨g,rfl,m,o,aw,b,a⟩;clear m o aw b a K1 K2 K3 K4 j B1;go_wp2_with fail;exact bodyPost_ret (v:=.tuple #[Qay q a38 7,.nilIface]) (by simp [results,results108,go_sem]) rfl ⟨rfl,w1,R1.u,u.u,l.u⟩
end
section
variable {KH : Nat → Option Obj}
attribute [local go_sem ↓] Go.wp_at_zero Go.wp_at_succ
set_option linter.unusedVariables false
def Vl(c:IC)(j:Nat):IC:={c with lc:={c.lc with i:=j}}
theorem Qmi(z q p hB g s B:Nat)(zs:List Int)(aft:Value)(c:IC)(w:World)(hM:Q2 KH q p hB g s B zs aft w c)(hz0:w.cell? ⟨z,0,none⟩=some (.pointer (some ⟨q,0,none⟩)))(hzp:z≠p)(hzl:zs.length<=65536)(hn:¬(c.lc.i+7)/8*8+32<=8*zs.length):
  Calls prog 75 #[.pointer (some ⟨z,0,none⟩)] w fun e w'=>e=.returned (.tuple #[.nilFunc,flt 2])/\Q2 KH q p hB g s B zs aft w' (Vl c ((c.lc.i+7)/8*8))/\Below B w w':=by
 refine iI ?_;intro q0 HM AL;generalize (c.lc.i+7)/8*8=j at*;have E:=Qe hM.bs;clear hM;go_enter func75,ntmps75;go_wp2_with fail;refine Calls.mono AL.u ?_;rintro e w1 ⟨rfl,P,O⟩;have M1:=Qe<|HM.u.went P O
 have B1:=Qe<|HM.u.bel O
 have HF:=Qe<|Qdv z q p hB zs j w1 (O.cell hz0 dW) M1.u.lm.c0 P hzl hn
 have L:q<w1.heap.size:=M1.u.lt;unfold flt at HF;clear P O AL HM;go_wp2_with fail;refine Calls.mono HF.u ?_;rintro e w2 ⟨rfl,hb⟩;have o:=Qe<|M1.u.below hb
 have B2:=Qe<|B1.u.trans (hb.mono (show B<=w1.heap.size from eP))
 clear hb HF M1 B1;go_wp2_with fail;exact bodyPost_ret (v:=.tuple #[.nilFunc,flt 2]) qH rfl ⟨rfl,o.u,B2.u⟩
theorem Qkj(z q p hB g s B:Nat)(zs:List Int)(aft:Value)(c:IC)(w:World)(hM:Q2 KH q p hB g s B zs aft w c)(hz0:w.cell? ⟨z,0,none⟩=some (.pointer (some ⟨q,0,none⟩)))(hzp:z≠p)(hz:Qh zs)(hzl:zs.length<=65536)(hn:(c.lc.i+7)/8*8+32<=8*zs.length)(hol:c.u.length<=65536)(hoc:Qh c.u):
  Calls prog 75 #[.pointer (some ⟨z,0,none⟩)] w fun e w'=>e=.returned (.tuple #[.nilFunc,if ((rb4 (field (bnum zs) ((c.lc.i+7)/8*8) 32):Nat):Int)=Adl.adl c.u then .nilIface else flt 4])/\Q2 KH q p hB g s B zs aft w' (Vl c ((c.lc.i+7)/8*8+32))/\Below B w w':=by
 refine iI ?_;intro q0 HM AL;generalize (c.lc.i+7)/8*8=j at*;clear hM;obtain ⟨F,C⟩:=dt (rb4 (field (bnum zs) j 32));obtain ⟨Y,hY⟩:∃Y:Nat,Adl.adl c.u=(Y:Int):=⟨(Adl.adl c.u).toNat,by have:=QcC c.u;omega⟩;have ax:=Qe (fun W a b c=>QbA z q p hB zs j W a b c hz hzl hn);have f:=Qe (fun X G W h1 h2=>QbL X G c.u c.u.length rfl W h1 hoc h2 hol);rw [C] at ax;rw [C,hY];rw [hY] at f;clear C hY hoc;by_cases I:(F:Int)=(Y:Int)
 ·rw [if_pos I]
  have az:((F:Int) != (Y:Int))=false:=f6;clear I;go_enter func75,ntmps75;go_wp2_with fail;refine Calls.mono AL.u ?_;rintro e w1 ⟨rfl,P,O⟩;refine kT ?_;intro M1 B1 k1;have HF:=Qe<|ax.u w1 k1 M1.u.lm.c0 P
  clear P O AL HM ax hz0;go_wp2_with fail;refine Calls.mono HF.u ?_;rintro e w2 ⟨rfl,J,ag⟩;refine kU ?_;intro o B2 k2;obtain ⟨T,d,_⟩:=o.u.ex;obtain ⟨X,G,l,R,_⟩:=d.o30;refine qI ?_;intro m x H AD;clear J ag HF M1 B1 k1 d l R m x f;generalize c.u.length=n at*;go_wp2_with fail;refine Calls.mono H.u ?_;rintro e w3 ⟨rfl,D⟩;obtain rfl:=D.symm;go_wp2_with fail;refine Calls.mono AD.u ?_;rintro e w3 ⟨rfl,D⟩;obtain rfl:=D.symm;go_wp2_with fail;exact bodyPost_ret (v:=.tuple #[.nilFunc,.nilIface]) (by simp [results,results75,go_sem]) rfl ⟨rfl,o.u,B2.u⟩
 ·rw [if_neg I]
  have az:((F:Int) != (Y:Int))=true:=f6;clear I;go_enter func75,ntmps75;go_wp2_with fail;refine Calls.mono AL.u ?_;rintro e w1 ⟨rfl,P,O⟩;refine kT ?_;intro M1 B1 k1;have HF:=Qe<|ax.u w1 k1 M1.u.lm.c0 P
  clear P O AL HM ax hz0;go_wp2_with fail;refine Calls.mono HF.u ?_;rintro e w2 ⟨rfl,J,ag⟩;refine kU ?_;intro o B2 k2;obtain ⟨T,d,_⟩:=o.u.ex;obtain ⟨X,G,l,R,_⟩:=d.o30;refine qI ?_;intro m x H AD;clear J ag HF M1 B1 k1 d l R m x f;generalize c.u.length=n at*;go_wp2_with fail;refine Calls.mono H.u ?_;rintro e w3 ⟨rfl,D⟩;obtain rfl:=D.symm;go_wp2_with fail;refine Calls.mono AD.u ?_;rintro e w3 ⟨rfl,D⟩;obtain rfl:=D.symm;go_wp2_with fail;exact bodyPost_ret (v:=.tuple #[.nilFunc,flt 4]) qH rfl ⟨rfl,o.u,B2.u⟩
end
end Go.Proofs.YtgginbpmebgkcaaGreatDoor
