import Derived.Test.YtgginbpmebgkcaaGreatDoorMBU
import Derived.Test.YtgginbpmebgkcaaGreatDoorMBW
import Derived.Test.YtgginbpmebgkcaaGreatDoorMBX
namespace Go.Proofs.YtgginbpmebgkcaaGreatDoor
open Go.RowKit Go.Proofs.Tryz
attribute [local go_sem ↓] Go.wp_at_zero Go.wp_at_succ
set_option linter.unusedVariables false
set_option maxRecDepth 100000
set_option maxHeartbeats 25600000
section
structure GSm(w:World)(v:Value)(i:Nat)(c:Int)(O:List Int)(nm g N:Nat)(W:World):Prop where
 res:QbJ W w.heap.size (.int .i64 0) (.slice none 0 0) (.slice none 0 0) (.int .i64 0)
 b:L5m W (w.heap.size+1+1) v (i:Nat) c
 o:∃oa oc am cm xs,QbJ W (w.heap.size+1) (.int .i64 0) (.slice oa O.length oc) (.slice am nm cm) (.int .i64 0)/\Qi 5 (w.heap.size+3) W oa oc O/\W.ownsRow (w.heap.size+3) 28 8 (.slice am nm cm) nm xs/\(∀k,Qt oa=some k->Qt am≠some k/\k≠g/\k<N)/\(∀k,Qt am=some k->k≠g/\k<N)
 m:∃C,M8 W g C/\MOk C
 gN:w.heap.size+3<=g/\g<N/\N<=W.heap.size
 l:Below w.heap.size w W
structure GS(w:World)(v:Value)(i:Nat)(c:Int)(O:List Int)(nm:Nat)(W:World):Prop where
 res:QbJ W w.heap.size (.int .i64 0) (.slice none 0 0) (.slice none 0 0) (.int .i64 0)
 b:L5m W (w.heap.size+1+1) v (i:Nat) c
 o:∃oa oc am cm xs,QbJ W (w.heap.size+1) (.int .i64 0) (.slice oa O.length oc) (.slice am nm cm) (.int .i64 0)/\Qi 5 (w.heap.size+3) W oa oc O/\W.ownsRow (w.heap.size+3) 28 8 (.slice am nm cm) nm xs/\(∀k,Qt oa=some k->Qt am≠some k)
 l:Below w.heap.size w W
 s:w.heap.size+3<=W.heap.size
theorem QbJ.far{w w':World}{g:Nat}{row:Option Nat}{v0 v1 v2 v3:Value}(h:QbJ w g v0 v1 v2 v3)(hg:w.grownBy w' row)(hne:some g≠row):QbJ w' g v0 v1 v2 v3:=by
 have e:=hg.block g (World.block_lt_of_cell? w _ h.c0) hne;exact qM
section
variable {w : World} {v : Value} {i : Nat} {c : Int} {O : List Int} {nm g N : Nat} {W W' : World}
theorem GSm.far(h:GSm w v i c O nm g N W){row:Option Nat}(hg:W.grownBy W' row)(hr:∀k,row=some k->N<=k):GSm w v i c O nm g N W':=by
 obtain ⟨oa,X,am,cm,xs,J,h2,h3,h4,U⟩:=h.o;obtain ⟨C,h6,h7⟩:=h.m;obtain ⟨g1,g2,g3⟩:=h.gN;have an:∀k,k<N->some k≠row:=fun k hk e=>by have:=hr k e.symm;omega
 have K:∀k,k<N->W'.heap[k]?=W.heap[k]?:=fun k hk=>hg.block k dk (an k hk)
 exact ⟨h.res.far hg (an _ dk),h.b.grown hg (an _ dk),⟨oa,X,am,cm,xs,J.far hg (an _ dk),h2.keep (fun k e=>K k (h4 k e).2.2),Vw h3 (fun k e=>K k (U k e).2),h4,U⟩,⟨C,h6.grown hg (an _ g2),h7⟩,⟨g1,g2,Nat.le_trans g3 hg.size⟩,h.l.grown hg h.l.size (fun k e=>by have:=hr k e;omega)⟩
theorem GSm.below(h:GSm w v i c O nm g N W)(hb:Below W.heap.size W W'):GSm w v i c O nm g N W':=h.far (Qk hb none) (fun k e=>dx)
theorem GSm.top(h:GSm w v i c O nm g N W):GSm w v i c O nm g W.heap.size W:=by
 obtain ⟨oa,X,am,cm,xs,J,h2,h3,h4,U⟩:=h.o;obtain ⟨g1,g2,g3⟩:=h.gN;exact ⟨h.res,h.b,⟨oa,X,am,cm,xs,J,h2,h3,fun k e=>⟨(h4 k e).1,(h4 k e).2.1,lY⟩,fun k e=>⟨(U k e).1,by have:=(U k e).2;omega⟩⟩,h.m,⟨g1,dk,Nat.le_refl _⟩,h.l⟩
theorem GSm.setR(h:GSm w v i c O nm g N W)(i':Nat)(c':Int):GSm w v i' c' O nm g N (((W.setCell ⟨w.heap.size+1+1,0,none⟩ v).setCell ⟨w.heap.size+1+1,1,none⟩ (.int .i64 (i':Nat))).setCell ⟨w.heap.size+1+1,2,none⟩ (.int .i64 c')):=by
 obtain ⟨oa,X,am,cm,xs,J,h2,h3,h4,U⟩:=h.o;obtain ⟨C,h6,h7⟩:=h.m;obtain ⟨g1,g2,g3⟩:=h.gN;obtain ⟨e1,e2⟩:=h.b.set v (i':Nat) c'
 have b2:=Qi.based h2;have Z:=Vh h3;have K:∀k,w.heap.size+3<=k->k<W.heap.size->(((W.setCell ⟨w.heap.size+1+1,0,none⟩ v).setCell ⟨w.heap.size+1+1,1,none⟩ (.int .i64 (i':Nat))).setCell ⟨w.heap.size+1+1,2,none⟩ (.int .i64 c')).heap[k]?=W.heap[k]?:=fun k h8 h9=>e2.block k h9 du
 exact ⟨h.res.far e2 dB,e1,⟨oa,X,am,cm,xs,J.far e2 dB,h2.keep (fun k e=>K k (b2 k e) lY),Vw h3 (fun k e=>K k (Z k e).1 (Z k e).2),h4,U⟩,⟨C,h6.grown e2 du,h7⟩,⟨g1,g2,Nat.le_trans g3 e2.size⟩,h.l.grown e2 h.l.size dz⟩
theorem GSm.setM(h:GSm w v i c O nm g N W)(j:Nat)(x:Value)(hx:∀C,MOk C->MOk (VE C j x)):GSm w v i c O nm g N (W.setCell ⟨g,j,none⟩ x):=by
 obtain ⟨oa,X,am,cm,xs,J,h2,h3,h4,U⟩:=h.o;obtain ⟨C,h6,h7⟩:=h.m;obtain ⟨g1,g2,g3⟩:=h.gN;have e2:=Qf W ⟨g,j,none⟩ x;have Z:=Vh h3;have K:∀k,k<W.heap.size->k≠g->(W.setCell ⟨g,j,none⟩ x).heap[k]?=W.heap[k]?:=fun k h8 h9=>e2.block k h8 (by simp;exact h9)
 exact ⟨h.res.far e2 du,h.b.grown e2 du,⟨oa,X,am,cm,xs,J.far e2 du,h2.keep (fun k e=>K k lY (h4 k e).2.1),Vw h3 (fun k e=>K k (Z k e).2 (U k e).1),h4,U⟩,⟨_,h6.set j x,hx C h7⟩,⟨g1,g2,Nat.le_trans g3 e2.size⟩,h.l.grown e2 h.l.size dz⟩
theorem GSm.setI(h:GSm w v i c O nm g N W)(j:Nat)(x:Int)(hj:j<4\/j=7):GSm w v i c O nm g N (W.setCell ⟨g,j,none⟩ (.int .i64 x)):=h.setM j _ (fun C hC=>hC.int j x hj)
theorem GSm.setS(h:GSm w v i c O nm g N W)(j:Nat)(a:Option Addr)(n cp:Nat)(hj:4<=j/\j<=6):GSm w v i c O nm g N (W.setCell ⟨g,j,none⟩ (.slice a n cp)):=h.setM j _ (fun C hC=>hC.sl j a n cp hj)
theorem GSm.set8(h:GSm w v i c O nm g N W)(f0 f1 f2 f3 f7:Int)(a4:Option Addr)(n4 k4:Nat)(a5:Option Addr)(n5 k5:Nat)(a6:Option Addr)(n6 k6:Nat):GSm w v i c O nm g N ((((((((W.setCell ⟨g,0,none⟩ (.int .i64 f0)).setCell ⟨g,1,none⟩ (.int .i64 f1)).setCell ⟨g,2,none⟩ (.int .i64 f2)).setCell ⟨g,3,none⟩ (.int .i64 f3)).setCell ⟨g,4,none⟩ (.slice a4 n4 k4)).setCell ⟨g,5,none⟩ (.slice a5 n5 k5)).setCell ⟨g,6,none⟩ (.slice a6 n6 k6)).setCell ⟨g,7,none⟩ (.int .i64 f7)):=
 (((((((h.setI 0 f0 dk).setI 1 f1 dk).setI 2 f2 dk).setI 3 f3 dk).setS 4 a4 n4 k4 dk).setS 5 a5 n5 k5 dk).setS 6 a6 n6 k6 dk).setI 7 f7 dk
theorem GSm.cells(h:GSm w v i c O nm g N W):∃f0 f1 f2 f3 f7:Int,∃(a4:Option Addr) (n4 k4:Nat) (a5:Option Addr) (n5 k5:Nat) (a6:Option Addr) (n6 k6:Nat),(W.cell? ⟨g,0,none⟩=some (.int .i64 f0)/\W.cell? ⟨g,1,none⟩=some (.int .i64 f1)/\W.cell? ⟨g,2,none⟩=some (.int .i64 f2)/\W.cell? ⟨g,3,none⟩=some (.int .i64 f3)/\W.cell? ⟨g,4,none⟩=some (.slice a4 n4 k4)/\W.cell? ⟨g,5,none⟩=some (.slice a5 n5 k5)/\W.cell? ⟨g,6,none⟩=some (.slice a6 n6 k6)/\W.cell? ⟨g,7,none⟩=some (.int .i64 f7))/\(∀k,W.frozen? ⟨g,k,none⟩=false)/\g<W.heap.size:=by
 obtain ⟨C,J,h2⟩:=h.m;obtain ⟨f0,K⟩:=h2.1 0 dk;refine sU ?_;intro f1 e1 f2 e2 f3 R f7 e7 a4 n4 k4 V a5 n5 k5 e5 a6 n6 k6 e6;refine ⟨f0,f1,f2,f3,f7,a4,n4,k4,a5,n5,k5,a6,n6,k6,⟨?_,?_,?_,?_,?_,?_,?_,?_⟩,J.f,J.lt⟩
 ·rw [J.c 0 dn,K]
 ·rw [J.c 1 dn,e1]
 ·rw [J.c 2 dn,e2]
 ·rw [J.c 3 dn,R]
 ·rw [J.c 4 dn,V]
 ·rw [J.c 5 dn,e5]
 ·rw [J.c 6 dn,e6]
 ·rw [J.c 7 dn,e7]
theorem GS.new(h:GS w v i c O nm W)(t:TypeId):GSm w v i c O nm W.heap.size (W.heap.size+1) (W.alloc (.cells #[.int .i64 0,.int .i64 0,.int .i64 0,.int .i64 0,.slice none 0 0,.slice none 0 0,.slice none 0 0,.int .i64 0] t)):=by
 obtain ⟨oa,X,am,cm,xs,J,h2,h3,h4⟩:=h.o;have hb:Below W.heap.size W (W.alloc (.cells #[.int .i64 0,.int .i64 0,.int .i64 0,.int .i64 0,.slice none 0 0,.slice none 0 0,.slice none 0 0,.int .i64 0] t)):=(Below.refl _ _).alloc (Nat.le_refl _) _;have E:=h.s;have b2:=Qi.lower2 h2;have Z:=Vh h3;exact ⟨h.res.below hb dk,h.b.below hb,⟨oa,X,am,cm,xs,J.below hb dk,h2.below hb,Vw h3 (fun k e=>hb.block k (Z k e).2),fun k e=>⟨h4 k e,jd,jd⟩,fun k e=>⟨je,je⟩⟩,⟨mZ,QkE W t,QpP⟩,⟨E,dk,dr⟩,h.l.trans (hb.mono h.l.size)⟩
theorem GSm.gs(h:GSm w v i c O nm g N W):GS w v i c O nm W:=by
 obtain ⟨oa,X,am,cm,xs,J,h2,h3,h4,U⟩:=h.o;obtain ⟨g1,g2,g3⟩:=h.gN;exact ⟨h.res,h.b,⟨oa,X,am,cm,xs,J,h2,h3,fun k e=>(h4 k e).1⟩,h.l,dk⟩
theorem QpD{w:World}{B e s n:Nat}{v:Value}{xs:List Value}(h:w.ownsRow B e s v n xs):∃a c,v=.slice a n c:=by
 rcases h.2 with ⟨J,h2⟩|⟨g,G,M,J,_⟩
 ·exact ⟨none,0,by rw [J,h2]⟩
 ·exact ⟨_,G,J⟩
theorem QbJ.put{w:World}{g:Nat}{v0 v1 v2 v3:Value}(h:QbJ w g v0 v1 v2 v3)(x:Value):QbJ (w.setCell ⟨g,1,none⟩ x) g v0 x v2 v3/\QbJ (w.setCell ⟨g,2,none⟩ x) g v0 v1 x v3:=by
 have M:∀(i j:Nat),i≠j->(w.setCell ⟨g,i,none⟩ x).cell? ⟨g,j,none⟩=w.cell? ⟨g,j,none⟩:=fun i j hij=>World.cell?_setCell_other _ _ _ _ dB
 refine ⟨⟨(M 1 0 dn).trans h.c0,World.cell?_setCell_same _ _ _ h.c1,(M 1 2 dn).trans h.c2,(M 1 3 dn).trans h.c3,fun k=>?_⟩,⟨(M 2 0 dn).trans h.c0,(M 2 1 dn).trans h.c1,World.cell?_setCell_same _ _ _ h.c2,(M 2 3 dn).trans h.c3,fun k=>?_⟩⟩
 ·rw [World.frozen?_setCell];exact h.f k
 ·rw [World.frozen?_setCell];exact h.f k
theorem GSm.u(h:GSm w v i c O nm g N W){oa am:Option Addr}{oc cm:Nat}{xs:List Value}(h1:QbJ W (w.heap.size+1) (.int .i64 0) (.slice oa O.length oc) (.slice am nm cm) (.int .i64 0))(h2:Qi 5 (w.heap.size+3) W oa oc O)(h3:W.ownsRow (w.heap.size+3) 28 8 (.slice am nm cm) nm xs)(h4:∀k,Qt oa=some k->Qt am≠some k/\k≠g/\k<N)(h5:∀k,Qt am=some k->k≠g/\k<N)(hg:W.grownBy W' (Qt oa)){a2:Option Addr}{c2:Nat}{O':List Int}(ho:Qi 5 (w.heap.size+3) W' a2 c2 O')(hat:Qt a2=Qt oa\/Qt a2=some W.heap.size):GSm w v i c O' nm g W'.heap.size (W'.setCell ⟨w.heap.size+1,1,none⟩ (.slice a2 O'.length c2)):=by
 obtain ⟨C,h6,h7⟩:=h.m;obtain ⟨g1,g2,g3⟩:=h.gN;have b2:=Qi.based h2;have Z:=Vh h3;have an:∀k,k<w.heap.size+3->some k≠Qt oa:=fun k hk e=>by have:=b2 k e.symm;omega
 have e2:=Qf W' ⟨w.heap.size+1,1,none⟩ (.slice a2 O'.length c2);have D:=hg.size;have K:∀k,k<W'.heap.size->k≠w.heap.size+1->(W'.setCell ⟨w.heap.size+1,1,none⟩ (.slice a2 O'.length c2)).heap[k]?=W'.heap[k]?:=fun k h8 h9=>e2.block k h8 (by simp;exact h9)
 refine ⟨(h.res.far hg (an _ dk)).far e2 dB,(h.b.grown hg (an _ dk)).grown e2 dB,⟨a2,c2,am,cm,xs,((h1.far hg (an _ dk)).put _).1,ho.keep (fun k e=>K k (Qi.lower2 ho k e) (by have:=Qi.based ho k e;omega)),Vw (Vw (w':=W') h3 (fun k e=>hg.block k (Z k e).2 (fun e3=>(h4 k e3.symm).1 e))) (fun k e=>K k je (by have:=(Z k e).1;omega)),fun k e=>?_,fun k e=>⟨(h5 k e).1,je⟩⟩,⟨C,(h6.grown hg (fun e=>(h4 g e.symm).2.1 rfl)).grown e2 du,h7⟩,⟨g1,dk,dr⟩,(h.l.grown hg h.l.size (fun k e=>jd)).grown e2 (Nat.le_trans h.l.size D) dz⟩;have hk:=Qi.lower2 ho k e;rcases hat with h8|h8
 ·rw [h8] at e
  obtain ⟨q1,q2,q3⟩:=h4 k e;exact ⟨q1,q2,hk⟩
 ·rw [h8] at e
  simp at e;exact ⟨fun e4=>by have:=(Z k e4).2;omega,dk,hk⟩
theorem GSm.mem(h:GSm w v i c O nm g N W){oa am:Option Addr}{oc cm:Nat}{xs ys:List Value}{A:Obj}(h1:QbJ W (w.heap.size+1) (.int .i64 0) (.slice oa O.length oc) (.slice am nm cm) (.int .i64 0))(h2:Qi 5 (w.heap.size+3) W oa oc O)(h3:W.ownsRow (w.heap.size+3) 28 8 (.slice am nm cm) nm xs)(h4:∀k,Qt oa=some k->Qt am≠some k/\k≠g/\k<N)(h5:∀k,Qt am=some k->k≠g/\k<N)(hg:(W.alloc A).grownBy W' (Qt am)){a2:Option Addr}{c2 nm':Nat}(ho:W'.ownsRow (w.heap.size+3) 28 8 (.slice a2 nm' c2) nm' ys)(hat:Qt a2=Qt am\/Qt a2=some (W.alloc A).heap.size):GS w v i c O nm' (W'.setCell ⟨w.heap.size+1,2,none⟩ (.slice a2 nm' c2)):=by
 obtain ⟨g1,g2,g3⟩:=h.gN;have hb:Below W.heap.size W (W.alloc A):=(Below.refl _ _).alloc (Nat.le_refl _) _;have hA:=hb.size;have b2:=Qi.based h2;have S:=Qi.lower2 h2;have Z:=Vh h3;have H:=Vh ho;have an:∀k,k<w.heap.size+3->some k≠Qt am:=fun k hk e=>by have:=(Z k e.symm).1;omega
 have e2:=Qf W' ⟨w.heap.size+1,2,none⟩ (.slice a2 nm' c2);have D:=hg.size;have hL:=h.l.trans<|hb.mono h.l.size
 have K:∀k,k<W'.heap.size->k≠w.heap.size+1->(W'.setCell ⟨w.heap.size+1,2,none⟩ (.slice a2 nm' c2)).heap[k]?=W'.heap[k]?:=fun k h8 h9=>e2.block k h8 (by simp;exact h9)
 refine ⟨((h.res.below hb dk).far hg (an _ dk)).far e2 dB,((h.b.below hb).grown hg (an _ dk)).grown e2 dB,⟨oa,oc,a2,c2,ys,(((h1.below hb dk).far hg (an _ dk)).put _).2,((h2.below hb).keep (w':=W') (fun k e=>hg.block k (by have:=S k e;omega) (fun e3=>(h4 k e).1 e3.symm))).keep (fun k e=>K k (by have:=S k e;omega) jd),Vw ho (fun k e=>K k (H k e).2 (by have:=(H k e).1;omega)),fun k e=>?_⟩,(hL.grown hg hL.size (fun k e=>by have:=(Z k e).1;omega)).grown e2 (Nat.le_trans hL.size D) dz,Nat.le_trans dk e2.size⟩;intro V;rcases hat with h8|h8
 ·rw [h8] at V
  exact (h4 k e).1 V
 ·rw [h8] at V
  injection V with e5;have:=S k e;omega
end
def Qqy(W:World)(p:Nat):Nat:=match W.cell? ⟨p,2,none⟩ with|some (.slice _ n _)=>n|_=>0
def Qq1(W:World)(p:Nat):Nat:=match W.cell? ⟨p,2,none⟩ with|some (.int _ c)=>if c=0 then 1 else 0|_=>0
theorem GS.mu{w:World}{v:Value}{i:Nat}{c:Int}{O:List Int}{nm:Nat}{W:World}(h:GS w v i c O nm W):64-Qqy W (w.heap.size+1)+Qq1 W (w.heap.size+1+1)=64-nm+(if c=0 then 1 else 0):=by
 obtain ⟨oa,X,am,cm,xs,J,_⟩:=h.o;unfold Qqy Qq1;rw [J.c2,h.b.2.2.1]
theorem Qri(w:World)(v:Value)(t t2:TypeId):GS w v 0 0 [] 0 (((w.alloc (.cells #[.int .i64 0,.slice none 0 0,.slice none 0 0,.int .i64 0] t)).alloc (.cells #[.int .i64 0,.slice none 0 0,.slice none 0 0,.int .i64 0] t)).alloc (.cells #[v,.int .i64 0,.int .i64 0] t2)):=by
 have b2:∀(x:World) A,Below x.heap.size x (x.alloc A):=fun x A=>(Below.refl _ _).alloc (Nat.le_refl _) _
 have J:=Qd6 w (.int .i64 0) (.slice none 0 0) (.slice none 0 0) (.int .i64 0) t;have h2:=Qd6 (w.alloc (.cells #[.int .i64 0,.slice none 0 0,.slice none 0 0,.int .i64 0] t)) (.int .i64 0) (.slice none 0 0) (.slice none 0 0) (.int .i64 0) t;have h3:=VI ((w.alloc (.cells #[.int .i64 0,.slice none 0 0,.slice none 0 0,.int .i64 0] t)).alloc (.cells #[.int .i64 0,.slice none 0 0,.slice none 0 0,.int .i64 0] t)) v 0 0 t2;simp only [World.size_alloc] at h2 h3;refine ⟨(J.below (b2 _ _) dr).below (b2 _ _) du,h3,⟨none,0,none,0,[],h2.below (b2 _ _) dr,Qi.nil _ _ _,World.ownsRow_nil _ _ _ _,fun k e=>dx⟩,((((Below.refl _ _).alloc (Nat.le_refl _) _).alloc dr _).alloc du _),dr⟩
end
def SGz(K:Int)(w:World)(e:Ending)(w':World):Prop:=∃a n c am nm cm U,e=.returned (.agg #[.int .i64 K,.slice a n c,.slice am nm cm,.int .i64 U])/\Below w.heap.size w w'
theorem QlY(gb of cap:Nat)(zs:List Int)(z q:Nat)(k:Int)(cf:GC)(w:World)(hr:Q1 w (some ⟨gb,of,none⟩) zs)(hgb:gb<w.heap.size)(hz:Qh zs)(hl:zs.length<=63)(hcap:zs.length<=cap)(hcm:cap<=maxLen)(hE:Vo (VD z q) (QT zs) gc0 k cf):
  Calls prog 14 #[.slice (some ⟨gb,of,none⟩) zs.length cap] w fun e w'=>SGz (QbG k cf) w e w':=by
 obtain ⟨i0,aU,af,ak,aq⟩:=info_parts Tryz.info_u8;obtain ⟨j0,cA,db,cd,ct⟩:=info_parts Tryz.info_member;have bt:dm (∀W (T:Nat),Below w.heap.size w W->T<=8*zs.length->Calls prog 47 #[.agg #[.slice (some ⟨gb,of,none⟩) zs.length cap,.int .i64 (T:Nat),.int .i64 0]] W fun e w'=>∃(f0 f1 f2 f3 f7:Int) (a4:Option Addr) (n4 k4:Nat) (a5:Option Addr) (n5 k5:Nat) (a6:Option Addr) (n6 k6:Nat),e=.returned (.tuple #[.agg #[.slice (some ⟨gb,of,none⟩) zs.length cap,.int .i64 ((hdR zs (T,0)).1:Nat),.int .i64 (hdR zs (T,0)).2],.agg #[.int .i64 f0,.int .i64 f1,.int .i64 f2,.int .i64 f3,.slice a4 n4 k4,.slice a5 n5 k5,.slice a6 n6 k6,.int .i64 f7]])/\Below W.heap.size W w'):=fun W T hW J=>Qh8 gb of cap zs T 0 W (hr.below hW) hz dk hcap hcm J
 have aw:dm (∀W (r:RR),Below w.heap.size w W->r.1<=8*zs.length->Calls prog 48 #[.agg #[.slice (some ⟨gb,of,none⟩) zs.length cap,.int .i64 (r.1:Nat),.int .i64 r.2],.int .i64 32] W fun e w'=>e=.returned (.tuple #[.agg #[.slice (some ⟨gb,of,none⟩) zs.length cap,.int .i64 ((tk zs r 32).1.1:Nat),.int .i64 (tk zs r 32).1.2],.int .i64 ((tk zs r 32).2:Nat)])/\Below W.heap.size W w'):=fun W r hW J=>VN _ cap zs r.1 32 r.2 W (hr.below hW) hz dk J dn
 have aQ:dm (∀W a c B (Mx:Int) (pr:List Int) (ki:Int) (ao:IC) (r:RR),dm (Mx=100000-(pr.length:Int))->w.heap.size<=B->Below w.heap.size w W->Qi 5 B W a c []->B<=W.heap.size->Vu 32768 zs pr 0 ki ao 7 (fun _=>True) r []->Calls prog 43 #[.agg #[.slice (some ⟨gb,of,none⟩) zs.length cap,.int .i64 (r.1:Nat),.int .i64 r.2],.agg #[.slice a 0 c,.int .i64 0,.int .i64 32768,.int .i64 Mx]] W fun e w'=>V8 (.slice (some ⟨gb,of,none⟩) zs.length cap) 0 32768 Mx B a (fun r' all'=>Vu 32768 zs pr 0 ki ao 16 (fun _=>True) r' all') e W w'):=fun W a c B Mx pr ki ao r J h2 hW ho hB hA=>QdD _ zs.length cap zs rfl r.1 r.2 a c [] 0 32768 Mx pr J ki ao B W (hr.below hW) (fun ad e=>by cases e;exact Nat.lt_of_lt_of_le hgb h2) hz dk ho hB dk dk hA
 have bN:dm (∀W (a:Option Addr) (c:Nat) (D:List Int),Q1 W a D->Qh D->D.length<=1000000->Calls prog 16 #[.int .u32 0,.slice a D.length c] W fun e w'=>e=.returned (.int .u32 (crcU 0 D:Nat))/\w'=W):=fun W a c D J h2 h3=>QbO 0 dn a c D W J h2 dk
 have bF:=Qe<|QrF (zs:=zs) hE
 have bG:dm (∀(out:List Int) (j:Nat) (r:RR),GAt zs z q k cf out j 0 (P0 zs) r->r.2=0->(r.1<8*zs.length\/j=0)->∃ki ao,Qh ao.u/\Vu 32768 zs out 0 ki ao 7 (fun _=>True) (hdR zs r) []/\∀(i4:Nat) (c4:Int) (data:List Int),i4<=8*zs.length->(c4≠0->ki=c4/\ki≠1)->(c4=0->ki=1/\ao.lc.i=i4)->ao.u=out++data->(out++data).length<=100000->GAt zs z q k cf (out++data) (if (gT zs (i4,c4) data).2=0 then j+1 else j) 0 (P0 zs) (gT zs (i4,c4) data)):=fun out j r J h2 h3=>QqC hz hl (Qlb hz hl J h2 h3)
 have cn:=Qe hl;clear hr hgb hz hE;obtain ⟨Z,hZ⟩:=dt zs.length;rw [hZ] at bt aw aQ hcap hl cn bG ⊢;have HZ:=Qe hZ;clear hZ;have aY:decide ((Z:Int) > 65536)=false:=decide_eq_false dk;have S0:=Qe<|Qri w (.slice (some ⟨gb,of,none⟩) Z cap) 36 85
 go_enter func14,ntmps14;go_upto_region 5 with fail;generalize ((w.alloc (.cells #[.int .i64 0,.slice none 0 0,.slice none 0 0,.int .i64 0] 36)).alloc (.cells #[.int .i64 0,.slice none 0 0,.slice none 0 0,.int .i64 0] 36)).alloc (.cells #[.slice (some ⟨gb,of,none⟩) Z cap,.int .i64 0,.int .i64 0] 85)=W0 at*;go_loopw [5,6,7,8] (fun _ _ _ _ wr=>∃(T j:Nat) (cr:Int) (O:List Int),dm (GAt zs z q k cf O j 0 (P0 zs) (T,cr))/\dm (GS w (.slice (some ⟨gb,of,none⟩) Z cap) T cr O j wr)) (fun _ _ _ _ wr=>64-Qqy wr (w.heap.size+1)+Qq1 wr (w.heap.size+1+1))
 case atStart=>exact ⟨0,0,0,[],bF,S0⟩
 case round=>
  clear S0 bF;obtain ⟨T,j,cr,O,HG,HS⟩:=hrel;have cF:T<=8*Z:=by have h:=HG.u.le;rw [HZ.u] at h;exact h
  have bA:=HS.u.mu;by_cases bj:cr=0/\(T<8*Z\/j=0)
  ·obtain ⟨aI,hx⟩:=bj
   subst aI;have bo:j<=Z:=by have h:=HG.u.nm_le rfl;rw [HZ.u] at h;exact h
   rw [if_pos rfl] at bA;have a9:=Qe bA;obtain ⟨ki,ao,aL,cE,bY⟩:=bG.u O j (T,0) HG.u rfl hx;have ay:=Qe aL;have cv:=Qe cE;have b':=Qe bY;have bI:dm (O.length<=100000):=HG.u.ob;have HX:=Qe hx;clear aL cE bY bA hx HG bG;go_upto_region 5 with fail;go_cut [32] from 16 to 94 (fun x wx=>x=.bool true/\dm (GS w (.slice (some ⟨gb,of,none⟩) Z cap) T 0 O j wx))
   case first=>
    as_aux_lemma=>
     obtain ⟨oa,X,am,cm,xs,a0,S,av,a2⟩:=HS.u.o;obtain ⟨b0,b1,b2,_⟩:=HS.u.b;have o2:=a0.c2;clear a0 S av a2;by_cases h:T<8*Z
     ·have hd:decide ((T:Int)<8*(Z:Int))=true:=decide_eq_true dk
      go_wp2_with fail;go_meet;exact ⟨rfl,HS⟩
     ·have hd:decide ((T:Int)<8*(Z:Int))=false:=decide_eq_false dk
      have ca:j=0:=by have:=HX.u;omega
      subst ca;go_wp2_with fail;go_meet;exact ⟨rfl,HS⟩
   case rest=>
   clear HS HX;obtain ⟨rfl,HS⟩:=hcut;have d:=Qe<|HS.u.new 28
   have cY:w.heap.size+3<=wc.heap.size:=HS.u.s;clear HS;go_upto_region 8 with fail;obtain ⟨gm,cp⟩:=dt wc.heap.size;rw [cp] at d cY ⊢;generalize wc.alloc (.cells #[.int .i64 0,.int .i64 0,.int .i64 0,.int .i64 0,.slice none 0 0,.slice none 0 0,.slice none 0 0,.int .i64 0] 28)=W1 at*;clear cp;have HD:=Qe (fun W hW=>bt.u W T hW cF);obtain ⟨ih,ch,cH⟩:=dI (hdR zs (T,0));rw [cH] at HD cv;dsimp only at HD;clear cH;obtain ⟨N,hN⟩:=dt (gm+1);rw [hN] at d;clear hN;obtain ⟨b0,b1,b2,_⟩:=d.u.b;go_wp2_with fail;refine Calls.mono (HD.u _ d.u.l) ?_;rintro e w1 ⟨f0,f1,f2,f3,f7,a4,n4,k4,a5,n5,k5,a6,n6,k6,rfl,hb⟩;have B1:=Qe<|d.u.below hb
   have E1:=Qe<|(B1.u.setR ih ch).set8 f0 f1 f2 f3 f7 a4 n4 k4 a5 n5 k5 a6 n6 k6
   clear hb b0 b1 b2 d;obtain ⟨b0,b1,b2,C⟩:=B1.u.b;refine dA ?_;intro ag G ae;obtain ⟨_,_,_,_,_,_,_,_,_,_,_,_,_,_,⟨m0,m1,m2,m3,m4,m5,m6,m7⟩,I,zm⟩:=B1.u.cells;have bT:=I 0;have cX:=I 1;have c':=I 2;have cW:=I 3;have cg:=I 4;have dc:=I 5;have dd:=I 6;have cB:=I 7;clear C I;go_upto_region 9 with fail;generalize ((((((((((((((((((((((w1).setCell ⟨w.heap.size+1+1,0,none⟩ (.slice (some ⟨gb,of,none⟩) Z cap))).setCell ⟨w.heap.size+1+1,1,none⟩ (.int .i64 (ih:Nat)))).setCell ⟨w.heap.size+1+1,2,none⟩ (.int .i64 ch))).setCell ⟨gm,0,none⟩ (.int .i64 f0))).setCell ⟨gm,1,none⟩ (.int .i64 f1))).setCell ⟨gm,2,none⟩ (.int .i64 f2))).setCell ⟨gm,3,none⟩ (.int .i64 f3))).setCell ⟨gm,4,none⟩ (.slice a4 n4 k4))).setCell ⟨gm,5,none⟩ (.slice a5 n5 k5))).setCell ⟨gm,6,none⟩ (.slice a6 n6 k6))).setCell ⟨gm,7,none⟩ (.int .i64 f7))=W2 at*;clear b0 b1 b2 ag G ae m0 m1 m2 m3 m4 m5 m6 m7 bT cX c' cW cg dc dd cB zm B1;have d:=E1;clear E1 HD bt;obtain ⟨Mx,cJ⟩:∃M:Int,(100000:Int)-(O.length:Int)=M:=⟨_,rfl⟩;have bu:0<=Mx/\Mx<=100000:=by have:=bI.u;omega
   have cK:dm (Mx=100000-(O.length:Int)):=cJ.symm;obtain ⟨wc,cj⟩:=dt W2;rw [cj] at d ⊢;clear cj W2;go_cut [7] from 16 to 94 (fun x wx=>∃(gt:Nat) (a:Option Addr) (c:Nat),x=.pointer (some ⟨gt,0,none⟩)/\N<=gt/\dm (Tb4 wx gt (.slice a 0 c) 0 32768 Mx)/\dm (Qi 5 N wx a c [])/\dm (∀g,Qt a=some g->g<gt)/\dm (GSm w (.slice (some ⟨gb,of,none⟩) Z cap) ih ch O j gm N wx))
   case first=>
    as_aux_lemma=>
     have be:Below wc.heap.size wc (wc.alloc (.cells #[] 5)):=(Below.refl _ _).alloc (Nat.le_refl _) _;have M1:=Qe<|d.u.below be
     have AE:Arg (wc.alloc (.cells #[] 5)) (some ⟨wc.heap.size,0,none⟩) 0 []:=⟨Q1.nil _ _,Nat.le_refl _,dy,fun ad e=>by cases e;simp,fun e=>dx⟩;have ST:dm (Calls prog 42 #[.int .i64 32768,.slice (some ⟨wc.heap.size,0,none⟩) 0 0,.int .i64 Mx] (wc.alloc (.cells #[] 5)) fun e w'=>∃a c,e=.returned (.agg #[.slice a 0 c,.int .i64 0,.int .i64 32768,.int .i64 Mx])/\Qi 5 (wc.alloc (.cells #[] 5)).heap.size w' a c []/\Below (wc.alloc (.cells #[] 5)).heap.size (wc.alloc (.cells #[] 5)) w'):=Qeu Mx 32768 [] (some ⟨wc.heap.size,0,none⟩) 0 (wc.alloc (.cells #[] 5)) AE dn dn dn;obtain ⟨oa,X,am,cm,xs,a0,_⟩:=M1.u.o;have o1:=a0.c1;have cN:N<=(wc.alloc (.cells #[] 5)).heap.size:=M1.u.gN.2.2;clear be AE a0;go_wp2_with fail;refine Calls.mono ST.u ?_;rintro e aT ⟨a,c,rfl,ho,aR⟩;have bQ:=aR.size;have ab:Below aT.heap.size aT (aT.alloc (.cells #[.slice a 0 c,.int .i64 0,.int .i64 32768,.int .i64 Mx] 91)):=(Below.refl _ _).alloc (Nat.le_refl _) _;have b5:=Qe<|QkV aT (.slice a 0 c) 0 32768 Mx 91
     have K:=Qe<|(Qi.below ho ab).mono cN
     have bq:=Qe<|Qi.lower2 ho
     have F:=Qe<|(M1.u.below aR).below ab
     have aX:N<=aT.heap.size:=dk;clear ho aR ab M1 ST o1 cN bQ d;go_wp2_with fail;go_meet;exact ⟨aT.heap.size,a,c,rfl,aX,b5,K,bq,F⟩
   case rest=>
   clear d cJ;obtain ⟨gt,a,c,rfl,aX,HT,HO,bq,d⟩:=hcut;have BL:=Qe<|aQ.u wc a c N Mx O ki ao (ih,ch) cK sX d.u.l HO.u d.u.gN.2.2 cv.u
   dsimp only at BL;have di:w.heap.size+3<N:=sX;clear aQ cv cK;go_upto_region 10 with fail;obtain ⟨b0,b1,b2,_⟩:=d.u.b;obtain ⟨t0,t1,t2,t3,_⟩:=HT.u;have zt:gt<wc.heap.size:=World.block_lt_of_cell? _ _ HT.u.c0;go_wp2_with fail;refine Calls.mono BL.u ?_;rintro e bO ⟨i4,c4,a4,n4,al,rfl,b6,aS,bx,aj⟩;obtain ⟨aG,bc,a'⟩:=aj.ended;have au:dm (O.length+al.length<=100000):=by have h:=aj.len.2;show _<=_;omega
   have aJ:dm (i4<=8*Z):=by have h:=aj.le;rw [HZ.u] at h;exact h
   have bb:dm (ao.u=O++al):=aG;have aK:dm (c4≠0->ki=c4/\ki≠1):=fun h=>⟨(aj.no h).1.symm,(aj.no h).2.1⟩
   have aV:dm (c4=0->ki=1/\ao.lc.i=i4):=fun h=>by
    exact qP
   have m:=Qe<|Qi.based HO.u
   have bB:=Qe<|d.u.far aS (fun k e=>m.u k e)
   have bK:=Qe<|HT.u.far aS (fun e=>by have:=bq.u gt e.symm;omega)
   have cx:=Qe b6.mine;have b4:dm (∀g,Qt a4=some g->g≠gt):=fun g e=>by
    rcases bx g e with h|h
    ·have:=bq.u g h;omega
    ·omega
   clear aj aG bc a' aS bx b6 d HT HO bq b0 b1 b2 t0 t1 t2 t3 BL m;have bd:=Qe<|bB.u.b.set (.slice (some ⟨gb,of,none⟩) Z cap) (i4:Nat) c4
   have MR:=Qe<|bB.u.setR i4 c4
   have TF:=Qe<|bK.u.far bd.u.2 du
   have bE:=Qe<|TF.u.set (.slice a4 al.length n4) 0 32768 Mx
   have bs:=Qac (((bO.setCell ⟨w.heap.size+1+1,0,none⟩ (.slice (some ⟨gb,of,none⟩) Z cap)).setCell ⟨w.heap.size+1+1,1,none⟩ (.int .i64 (i4:Nat))).setCell ⟨w.heap.size+1+1,2,none⟩ (.int .i64 c4)) gt (.slice a4 al.length n4) 0 32768 Mx;have bn:=Qe<|MR.u.far bs (fun k e=>dJ)
   have cu:=Qe<|(cx.u.grown bd.u.2 (fun k e e2=>by simp at e;subst e;exact cx.u.far dk e2)).grown bs (fun k e e2=>by simp at e;have:=b4.u k e2;omega)
   obtain ⟨b0,b1,b2,C⟩:=bB.u.b;refine dA ?_;intro ag G ae;obtain ⟨t0,t1,t2,t3,P⟩:=TF.u;refine eE ?_;intro aH aN aM aP;clear C P bs TF bd MR cx;unfold wT at bE bn cu;go_upto_region 11 with fail;clear b0 b1 b2 ag G ae t0 t1 t2 t3 aH aN aM aP bB bK;generalize ((((((((((((((bO).setCell ⟨w.heap.size+1+1,0,none⟩ (.slice (some ⟨gb,of,none⟩) Z cap))).setCell ⟨w.heap.size+1+1,1,none⟩ (.int .i64 (i4:Nat)))).setCell ⟨w.heap.size+1+1,2,none⟩ (.int .i64 c4))).setCell ⟨gt,0,none⟩ (.slice a4 al.length n4))).setCell ⟨gt,1,none⟩ (.int .i64 0))).setCell ⟨gt,2,none⟩ (.int .i64 32768))).setCell ⟨gt,3,none⟩ (.int .i64 Mx))=bL at*;have HT:=bE;have HA:=cu;have d:=bn;obtain ⟨wd,cc⟩:=dt bL;rw [cc] at HT HA d ⊢;clear cc bE cu bn bL;have b8:=Qe<|Qg1 a4 n4 al 0 32768 Mx wd HA.u.row HA.u.fits HA.u.most HA.u.bare (Nat.zero_le _) (by have:=au.u;omega)
   rw [List.drop_zero] at b8;go_cut [8] from 16 to 94 (fun x wx=>∃(N2:Nat) (aO:Option Addr) (cO:Nat),x=.slice aO al.length cO/\dm (Qi 5 N2 wx aO cO al)/\dm (GSm w (.slice (some ⟨gb,of,none⟩) Z cap) i4 c4 O j gm N2 wx))
   case first=>
    as_aux_lemma=>
     obtain ⟨t0,t1,t2,t3,_⟩:=HT.u;go_wp2_with fail;refine Calls.mono b8.u ?_;rintro e cS ⟨aO,cO,rfl,bP,bC⟩;have y:=Qe bP;have F:=Qe<|d.u.top.below bC
     clear bP bC b8 HT HA t0 t1 t2 t3;go_wp2_with fail;go_meet;exact ⟨_,aO,cO,rfl,y,F⟩
   case rest=>
   clear d HT HA b8;obtain ⟨N2,aO,cO,rfl,y,d⟩:=hcut;have ah:Qh al:=fun v hv=>ay.u v (by rw [bb.u];exact List.mem_append_right _ hv)
   have bU:=Qe ah;have a8:dm (GAt zs z q k cf (O++al) (if (gT zs (i4,c4) al).2=0 then j+1 else j) 0 (P0 zs) (gT zs (i4,c4) al)):=b'.u i4 c4 al aJ.u aK.u aV.u bb.u (by rw [List.length_append];exact au.u);clear ah b' aK aV bb ay bu aX;go_upto_region 12 with fail;go_cut [6] from 16 to 94 (fun _ wx=>∃(N3:Nat),dm (Q1 wx aO al)/\dm (GSm w (.slice (some ⟨gb,of,none⟩) Z cap) i4 c4 (O++al) j gm N3 wx))
   case first=>
    as_aux_lemma=>
     obtain ⟨oa,X,am,cm,xs,a0,S,av,a2,bh⟩:=d.u.o;have p:=Qe a0;have an:=Qe S;have aB:=Qe av;have U:=Qe a2;have bW:=Qe bh;have o1:=a0.c1;have ai:=Qe y.u.mine;have aW:w.heap.size+3<=wc.heap.size:=by have:=d.u.gN;omega
     have da:dm (O.length+al.length<=maxLen):=by show _<=_;have:=au.u;unfold maxLen;omega
     have cV:dm ((O.length+al.length)*1<=140737488355328):=by show _<=_;have:=au.u;omega
     have cz:=Qe<|Qi.based S
     clear a0 S av a2 bh;go_wp2_with (at_builtin;refine Qm _ rfl _ _ 22 rfl (w.heap.size+3) 5 i0 (.int .u8 0) 1 underlying22 aU af ak aq rfl (.slice oa O.length X) O.length (O.map (Value.int .u8)) rfl an.u aO cO al rfl ai.u.row ai.u.nil_len da.u cV.u aW ?_)
     intro v' w5 R Q aa;have H:w5.ownsRow (w.heap.size+3) 5 1 v' (O++al).length ((O++al).map (Value.int .u8)):=jf;obtain ⟨a3,ar,rfl,cl⟩:=Qi.of H;rw [QA] at Q;have ck:Qt a3=Qt oa\/Qt a3=some wc.heap.size:=by
      rw [QA,QA] at aa;exact aa
     have de:=Qe<|d.u.u p.u an.u aB.u U.u bW.u Q cl ck
     have V:some (w.heap.size+1)≠Qt oa:=fun e=>by have:=cz.u _ e.symm;omega
     have q1:=(p.u.far Q V).c1;have dj:=(p.u.far Q V).f 1;have cD:=Qf w5 ⟨w.heap.size+1,1,none⟩ (.slice a3 (O++al).length ar);have cC:∀k,Qt oa=some k->Qt aO≠some k:=fun k e e2=>by have J:=(U.u k e).2.2;have h2:=Qi.based y.u k e2;omega
     have RO:=Qe ((ai.u.grown Q cC).grown cD (fun k e e2=>by simp at e;have J:=d.u.gN;have h2:=Qi.based y.u k e2;omega)).row;generalize (O++al).length=nL at*;clear R H Q aa ck cl o1 V cD cC p an aB U bW;go_wp2_with fail;go_meet;exact ⟨_,RO,de⟩
   case rest=>
   have bH:dm (∀ad,aO=some ad->w.heap.size+3<=ad.block):=fun ad e=>by have J:=d.u.gN;have h2:=Qi.based y.u ad.block (by rw [e];rfl);omega
   clear d y;obtain ⟨N3,RO,d⟩:=hcut;obtain ⟨OL,cQ⟩:=dt (O++al);rw [cQ] at d a8;have AL:=Qe (fun W=>Qdb (some ⟨gb,of,none⟩) Z cap i4 c4 W (by have:=aJ.u;omega));obtain ⟨i5,c5,e5⟩:=dI (alP (i4,c4));have bM:dm (i5<=8*zs.length):=by
    have h:=e5;have h2:=aJ.u;have h3:=HZ.u;unfold alP at h;split at h<;>(injection h with h _;show _<=_;(try dsimp only at h);omega)
   obtain ⟨i6,c6,x6,e6⟩:=dH (tk zs (i5,c5) 32);have bp:dm (i6<=8*zs.length):=by have h:=Qar (zs:=zs) (r:=(i5,c5)) (n:=32) bM.u;rw [e6] at h;exact h
   obtain ⟨Y,hY⟩:=dt (crcU 0 al);have bw:Y<4294967296:=by rw [<-hY];exact Qd0 0 dn al bU.u
   obtain ⟨b7,aA⟩:=dt (((x6:Int) != (Y:Int)));have bR:IntKind.i64.wrap (Y:Int)=(Y:Int):=iJ;have cI:((x6:Int) != IntKind.i64.wrap (Y:Int))=b7:=by rw [bR];exact aA
   obtain ⟨i7,c7,e7⟩:=dI (suP (i6,c6) b7);have bz:dm (i7<=8*zs.length):=by have h:=QoD (i6,c6) b7;rw [e7] at h;have h2:i7=i6:=h;rw [h2];exact bp.u
   obtain ⟨i8,c8,x8,e8⟩:=dH (tk zs (i7,c7) 32);obtain ⟨b9,ax⟩:=dt (((x8:Int) != (al.length:Int)));obtain ⟨i9,c9,e9⟩:=dI (suP (i8,c8) b9);have cL:gT zs (i4,c4) al=(i9,c9):=by
    unfold gT;rw [e5,e6];dsimp only;rw [hY,<-QcF,aA,e7,e8];dsimp only;rw [<-QcF,ax,e9]
   rw [cL] at a8;dsimp only at a8;have cM:dm (∀W,Below w.heap.size w W->Calls prog 48 #[.agg #[.slice (some ⟨gb,of,none⟩) Z cap,.int .i64 (i5:Nat),.int .i64 c5],.int .i64 32] W fun e w'=>e=.returned (.tuple #[.agg #[.slice (some ⟨gb,of,none⟩) Z cap,.int .i64 (i6:Nat),.int .i64 c6],.int .i64 (x6:Nat)])/\Below W.heap.size W w'):=fun W hW=>by have h:=aw.u W (i5,c5) hW (by show i5<=8*Z;rw [<-HZ.u];exact bM.u);rw [e6] at h;exact h
   have cy:dm (∀W,Below w.heap.size w W->Calls prog 48 #[.agg #[.slice (some ⟨gb,of,none⟩) Z cap,.int .i64 (i7:Nat),.int .i64 c7],.int .i64 32] W fun e w'=>e=.returned (.tuple #[.agg #[.slice (some ⟨gb,of,none⟩) Z cap,.int .i64 (i8:Nat),.int .i64 c8],.int .i64 (x8:Nat)])/\Below W.heap.size W w'):=fun W hW=>by have h:=aw.u W (i7,c7) hW (by show i7<=8*Z;rw [<-HZ.u];exact bz.u);rw [e8] at h;exact h
   have cP:dm (∀W,Calls prog 46 #[.agg #[.slice (some ⟨gb,of,none⟩) Z cap,.int .i64 (i6:Nat),.int .i64 c6],.bool b7] W fun e w'=>e=.returned (.agg #[.slice (some ⟨gb,of,none⟩) Z cap,.int .i64 (i7:Nat),.int .i64 c7])/\Below W.heap.size W w'):=fun W=>by have h:=QcD (some ⟨gb,of,none⟩) Z cap i6 c6 b7 W;rw [e7] at h;exact h
   have cw:dm (∀W,Calls prog 46 #[.agg #[.slice (some ⟨gb,of,none⟩) Z cap,.int .i64 (i8:Nat),.int .i64 c8],.bool b9] W fun e w'=>e=.returned (.agg #[.slice (some ⟨gb,of,none⟩) Z cap,.int .i64 (i9:Nat),.int .i64 c9])/\Below W.heap.size W w'):=fun W=>by have h:=QcD (some ⟨gb,of,none⟩) Z cap i8 c8 b9 W;rw [e9] at h;exact h
   rw [e5] at AL;dsimp only at AL;have cG:dm (∀W,Q1 W aO al->Calls prog 16 #[.int .u32 0,.slice aO al.length cO] W fun e w'=>e=.returned (.int .u32 (Y:Nat))/\w'=W):=fun W h=>by have h2:=bN.u W aO cO al h bU.u (by have:=au.u;omega);rw [hY] at h2;exact h2
   clear e5 e6 e7 e8 e9 hY aw bN cL bU bM bp bz au aJ bI cQ aA bR;go_upto_region 13 with fail;go_cut [6] from 16 to 94 (fun _ wx=>dm (Q1 wx aO al)/\dm (GSm w (.slice (some ⟨gb,of,none⟩) Z cap) i5 c5 OL j gm N3 wx))
   case first=>
    as_aux_lemma=>
     obtain ⟨b0,b1,b2,_⟩:=d.u.b;go_wp2_with fail;refine Calls.mono (AL.u _) ?_;rintro e w1 ⟨rfl,hb⟩;have R1:=Qe<|RO.u.below hb
     have B1:=Qe<|d.u.below hb
     have E1:=Qe<|B1.u.setR i5 c5
     have gE:=(B1.u.b.set (.slice (some ⟨gb,of,none⟩) Z cap) (i5:Nat) c5).2;clear hb b0 b1 b2;obtain ⟨b0,b1,b2,C⟩:=B1.u.b;refine dA ?_;intro ag G ae;clear C d;have RR:=Qe<|R1.u.grown gE (fun ad e e2=>by simp at e2;have:=bH.u ad e;omega)
     clear gE R1;go_wp2_with fail;go_meet;exact ⟨RR,E1⟩
   case rest=>
   clear d RO AL;obtain ⟨RO,d⟩:=hcut;go_upto_region 14 with fail;go_cut [6] from 16 to 94 (fun x wx=>x=.int .i64 (x6:Nat)/\dm (Q1 wx aO al)/\dm (GSm w (.slice (some ⟨gb,of,none⟩) Z cap) i6 c6 OL j gm N3 wx))
   case first=>
    as_aux_lemma=>
     obtain ⟨b0,b1,b2,_⟩:=d.u.b;go_wp2_with fail;refine Calls.mono (cM.u _ d.u.l) ?_;rintro e w1 ⟨rfl,hb⟩;have R1:=Qe<|RO.u.below hb
     have B1:=Qe<|d.u.below hb
     have E1:=Qe<|B1.u.setR i6 c6
     have gE:=(B1.u.b.set (.slice (some ⟨gb,of,none⟩) Z cap) (i6:Nat) c6).2;clear hb b0 b1 b2;obtain ⟨b0,b1,b2,C⟩:=B1.u.b;refine dA ?_;intro ag G ae;clear C d;have RR:=Qe<|R1.u.grown gE (fun ad e e2=>by simp at e2;have:=bH.u ad e;omega)
     clear gE R1;go_wp2_with fail;go_meet;exact ⟨rfl,RR,E1⟩
   case rest=>
   clear d RO cM;obtain ⟨rfl,RO,d⟩:=hcut;have c3:dm (∀W,Below wc.heap.size wc W->Calls prog 16 #[.int .u32 0,.slice aO al.length cO] W fun e w'=>e=.returned (.int .u32 (Y:Nat))/\w'=W):=fun W hW=>cG.u W (RO.u.below hW)
   clear cG RO;go_upto_region 15 with fail;go_cut [6] from 16 to 94 (fun _ wx=>dm (GSm w (.slice (some ⟨gb,of,none⟩) Z cap) i7 c7 OL j gm N3 wx))
   case first=>
    as_aux_lemma=>
     obtain ⟨b0,b1,b2,_⟩:=d.u.b;have zb:=d.u.b.lt;obtain ⟨bD,b3⟩:=dt wc;rw [b3] at c3 d b0 b1 b2 zb ⊢;clear b3 a8 cy cw a9 HZ cn;go_region_with (first|(go_at_call 16;with_reducible refine Calls.mono (c3.u _ fv) ?_;rintro e wk ⟨rfl,rfl⟩)|(go_at_call 46;refine Calls.mono (cP.u _) ?_;rintro e w9 ⟨rfl,ax⟩;have t:Below bD.heap.size bD w9:=qQ;obtain ⟨_,_,_,aF⟩:=(d.u.below t).b))
     all_goals
      have E:=Qe<|(d.u.below t).setR i7 c7
      clear b0 b1 b2 zb;go_wp2_with fail;go_meet;exact E
   case rest=>
   clear d c3 cP cI bw;have d:=hcut;clear hcut;go_upto_region 16 with fail;go_cut [6] from 16 to 94 (fun x wx=>x=.int .i64 (x8:Nat)/\dm (GSm w (.slice (some ⟨gb,of,none⟩) Z cap) i8 c8 OL j gm N3 wx))
   case first=>
    as_aux_lemma=>
     obtain ⟨b0,b1,b2,_⟩:=d.u.b;go_wp2_with fail;refine Calls.mono (cy.u _ d.u.l) ?_;rintro e w1 ⟨rfl,hb⟩;have B1:=Qe<|d.u.below hb
     have E1:=Qe<|B1.u.setR i8 c8
     clear hb b0 b1 b2;obtain ⟨b0,b1,b2,C⟩:=B1.u.b;refine dA ?_;intro ag G ae;clear C d;exact gq
   case rest=>
   clear d cy;obtain ⟨rfl,d⟩:=hcut;go_upto_region 17 with fail;go_cut [6] from 16 to 94 (fun _ wx=>dm (GSm w (.slice (some ⟨gb,of,none⟩) Z cap) i9 c9 OL j gm N3 wx))
   case first=>
    as_aux_lemma=>
     obtain ⟨b0,b1,b2,_⟩:=d.u.b;go_wp2_with fail;refine Calls.mono (cw.u _) ?_;rintro e w1 ⟨rfl,hb⟩;have B1:=Qe<|d.u.below hb
     have E1:=Qe<|B1.u.setR i9 c9
     clear hb b0 b1 b2;obtain ⟨b0,b1,b2,C⟩:=B1.u.b;refine dA ?_;intro ag G ae;clear C d;go_wp2_with fail;go_meet;exact E1
   case rest=>
   clear d cw ax;have d:=hcut;clear hcut;go_upto_region 18 with fail;go_cut [6] from 16 to 94 (fun _ wx=>dm (GSm w (.slice (some ⟨gb,of,none⟩) Z cap) i9 c9 OL j gm N3 wx))
   case first=>
    as_aux_lemma=>
     obtain ⟨_,_,_,_,_,_,_,_,_,_,_,_,_,_,⟨_,_,_,_,_,_,_,m7⟩,I,zm⟩:=d.u.cells;have cB:=I 7;have E1:=Qe<|d.u.setI 7 (al.length:Int) dk
     clear I;go_wp2_with fail;go_meet;exact E1
   case rest=>
   clear d;have d:=hcut;clear hcut;obtain ⟨b0,b1,b2,_⟩:=d.u.b;have zb:=d.u.b.lt;by_cases bX:c9=0
   ·subst bX
    rw [if_pos rfl] at a8;obtain ⟨f0,f1,f2,f3,f7,a4,n4,k4,a5,n5,k5,a6,n6,k6,⟨m0,m1,m2,m3,m4,m5,m6,m7⟩,I,zm⟩:=d.u.cells;obtain ⟨oa,X,am,cm,xs,a0,S,av,a2,bh⟩:=d.u.o;have p:=Qe a0;have an:=Qe S;have aB:=Qe av;have U:=Qe a2;have bW:=Qe bh;have o2:=a0.c2;have zo:=World.block_lt_of_cell? _ _ o2;have aZ:dm (∀A,(wc.alloc A).ownsRow (w.heap.size+3) 28 8 (.slice am j cm) j xs):=fun A=>Vw av (fun k e=>((Below.refl wc.heap.size wc).alloc (Nat.le_refl _) A).block k (Vh av k e).2)
    have bS:=Qe<|Qf2 wc #[.int .i64 f0,.int .i64 f1,.int .i64 f2,.int .i64 f3,.slice a4 n4 k4,.slice a5 n5 k5,.slice a6 n6 k6,.int .i64 f7] 28
    have a1:dm (∀u∈([.int .i64 f0,.int .i64 f1,.int .i64 f2,.int .i64 f3,.slice a4 n4 k4,.slice a5 n5 k5,.slice a6 n6 k6,.int .i64 f7]:List Value),u.oneCell'=true):=r5;have bm:dm (j+1<=maxLen):=jZ;have bl:dm ((j+1)*112<=140737488355328):=gQ;have br:dm (w.heap.size+3<=(wc.alloc (.cells #[.int .i64 f0,.int .i64 f1,.int .i64 f2,.int .i64 f3,.slice a4 n4 k4,.slice a5 n5 k5,.slice a6 n6 k6,.int .i64 f7] 28)).heap.size):=by show _<=_;simp;omega
    have bJ:dm (∀k,Qt am=some k->w.heap.size+3<=k):=fun k e=>(Vh aB.u k e).1
    clear a0 S av a2 bh I;go_wp2_with (at_builtin;refine Vt _ rfl _ _ 34 rfl (w.heap.size+3) 28 j0 (.agg #[.int .i64 0,.int .i64 0,.int .i64 0,.int .i64 0,.slice none 0 0,.slice none 0 0,.slice none 0 0,.int .i64 0]) 8 112 underlying34 cA db cd ct rfl dn (.slice am j cm) j xs rfl (aZ.u _) ⟨wc.heap.size,0,none⟩ 1 1 [.int .i64 f0,.int .i64 f1,.int .i64 f2,.int .i64 f3,.slice a4 n4 k4,.slice a5 n5 k5,.slice a6 n6 k6,.int .i64 f7] rfl rfl bS.u a1.u bm.u bl.u br.u ?_)
    intro v' w5 R Q aa;obtain ⟨a7,cU,rfl⟩:=QpD R;have cq:(Value.slice am j cm).ownBlock=Qt am:=by cases am<;>rfl
    have cR:(Value.slice a7 (j+1) cU).ownBlock=Qt a7:=by cases a7<;>rfl
    rw [cq] at Q;rw [cq,cR] at aa;have bV:=Qe<|d.u.mem p.u an.u aB.u U.u bW.u Q R (by rw [World.size_alloc];exact aa)
    have V:some (w.heap.size+1)≠Qt am:=fun e=>by have:=bJ.u _ e.symm;omega
    have ba:Below wc.heap.size wc (wc.alloc (.cells #[.int .i64 f0,.int .i64 f1,.int .i64 f2,.int .i64 f3,.slice a4 n4 k4,.slice a5 n5 k5,.slice a6 n6 k6,.int .i64 f7] 28)):=(Below.refl _ _).alloc (Nat.le_refl _) _;have RQ:=(p.u.below ba zo).far Q V;have q2:=RQ.c2;have dh:=RQ.f 2;have bk:=bV.u.mu;rw [if_pos rfl] at bk;have bZ:=Qe bk;clear R Q aa cq cR V ba RQ o2 zo p an aB U bW aZ bS a1 bm bl br bJ b0 b1 b2 zb m0 m1 m2 m3 m4 m5 m6 m7 d bk;go_wp2_with fail;go_roundw
    case rel=>exact ⟨i9,j+1,0,OL,a8,bV⟩
    case measure=>
     rw [a9.u,bZ.u];omega
   ·have az:(c9 == 0)=false:=by simp [bX]
    rw [if_neg bX] at a8;have bV:=Qe d.u.gs;have bk:=bV.u.mu;rw [if_neg bX] at bk;have bZ:=Qe bk;clear bk bX d;go_wp2_with fail;go_roundw
    case rel=>exact ⟨i9,j,c9,OL,a8,bV⟩
    case measure=>
     rw [a9.u,bZ.u];omega
  ·obtain ⟨oa,X,am,cm,xs,a0,_⟩:=HS.u.o
   obtain ⟨b0,b1,b2,_⟩:=HS.u.b;obtain ⟨o0,o1,o2,o3,of⟩:=a0;obtain ⟨r0,r1,r2,r3,rf⟩:=HS.u.res;have dg:=of 0;have df:=of 3;refine dY ?_;intro aE aC aD;have cT:=rf 3;have LL:=Qe HS.u.l;clear of rf bG bt aw aQ bN bA;by_cases aI:cr=0
   ·subst aI
    have hx:¬T<8*Z/\0<j:=by
     refine ⟨fun h=>bj ⟨rfl,.inl h⟩,?_⟩;have:j≠0:=fun h=>bj ⟨rfl,.inr h⟩
     omega
    have HK:dm (QbG k cf=1):=HG.u.stop rfl (by rw [HZ.u];exact hx.1) hx.2;have hd:decide ((T:Int)<8*(Z:Int))=false:=decide_eq_false dk;have cZ:((j:Int) == 0)=false:=du;have g1:=Qj (Qj (Qf wr ⟨w.heap.size+1,0,none⟩ (.int .i64 0)) (Qf _ ⟨w.heap.size+1,0,none⟩ (.int .i64 1))) (Qf _ ⟨w.heap.size+1,3,none⟩ (.int .i64 (Z:Nat)));have L1:=LL.u.grown g1 LL.u.size dz;have g2:=Qj (Qj (Qj (Qf (((wr.setCell ⟨w.heap.size+1,0,none⟩ (.int .i64 0)).setCell ⟨w.heap.size+1,0,none⟩ (.int .i64 1)).setCell ⟨w.heap.size+1,3,none⟩ (.int .i64 (Z:Nat))) ⟨w.heap.size,0,none⟩ (.int .i64 1)) (Qf _ ⟨w.heap.size,1,none⟩ (.slice oa O.length X))) (Qf _ ⟨w.heap.size,2,none⟩ (.slice am j cm))) (Qf _ ⟨w.heap.size,3,none⟩ (.int .i64 (Z:Nat)));have L2:=Qe<|L1.grown g2 L1.size dz
    clear g1 g2 L1 hx bj;go_wp2_with fail;exact bodyPost_ret (v:=.agg #[.int .i64 1,.slice oa O.length X,.slice am j cm,.int .i64 (Z:Nat)]) sY rfl ⟨oa,_,X,am,j,cm,_,by rw [HK.u],L2.u⟩
   ·have az:(cr == 0)=false:=by simp [aI]
    have HK:dm (QbG k cf=cr):=(HG.u.no aI).1;have g1:=Qf wr ⟨w.heap.size+1,0,none⟩ (.int .i64 cr);have L1:=LL.u.grown g1 LL.u.size dz;have g2:=Qj (Qj (Qj (Qf (wr.setCell ⟨w.heap.size+1,0,none⟩ (.int .i64 cr)) ⟨w.heap.size,0,none⟩ (.int .i64 cr)) (Qf _ ⟨w.heap.size,1,none⟩ (.slice oa O.length X))) (Qf _ ⟨w.heap.size,2,none⟩ (.slice am j cm))) (Qf _ ⟨w.heap.size,3,none⟩ (.int .i64 0));have L2:=Qe<|L1.grown g2 L1.size dz
    clear g1 g2 L1 bj aI;go_wp2_with fail;exact bodyPost_ret (v:=.agg #[.int .i64 cr,.slice oa O.length X,.slice am j cm,.int .i64 0]) sY rfl ⟨oa,_,X,am,j,cm,_,by rw [HK.u],L2.u⟩
end Go.Proofs.YtgginbpmebgkcaaGreatDoor
