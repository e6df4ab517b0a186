import Derived.Deep.AppendLies
import Derived.Test.YtgginbpmebgkcaaGreatDoorMAW
import Derived.Test.YtgginbpmebgkcaaGreatDoorMAY
namespace Go.Proofs.YtgginbpmebgkcaaGreatDoor
open Go.RowKit Go.Proofs.Tryz
attribute [local go_sem ↓] Go.wp_at_zero Go.wp_at_succ
set_option linter.unusedVariables false
set_option maxRecDepth 100000
set_option maxHeartbeats 25600000
section
variable{k:Nat}
def ifx(s:Nat):Int:=if 144<=s/\s<256 then 9 else if 256<=s/\s<280 then 7 else 8
theorem Qrw(h:k<144):ifx k=8:=by rw [ifx,if_neg dk,if_neg dk]
theorem QrP(h:¬k<144)(h2:k<256):ifx k=9:=by rw [ifx,if_pos dk]
theorem Qrs(h:¬k<256)(h2:k<280):ifx k=7:=by rw [ifx,if_neg dk,if_pos dk]
theorem Qr3(h:¬k<280):ifx k=8:=by rw [ifx,if_neg dk,if_neg dk]
theorem Qdo(s:Nat)(h:s<288):F288.getD s 0=ifx s:=by
 have J:∀s:Fin 288,F288.getD s.val 0=ifx s.val:=eg;exact J ⟨s,h⟩
theorem Qf7(w:World)(x:Value)(t:TypeId):∀j u,([x]:List Value)[j]?=some u->(w.alloc (.cells #[x] t)).cell? ((⟨w.heap.size,0,none⟩:Addr).add j)=some u:=pE
theorem QeS(w:World):Calls prog 68 #[] w fun e w'=>∃g cap gd cd,e=.returned (.tuple #[.slice (some ⟨g,0,none⟩) F288.length cap,.slice (some ⟨gd,0,none⟩) F32.length cd])/\Qv w' (some ⟨g,0,none⟩) F288/\Qv w' (some ⟨gd,0,none⟩) F32/\Below w.heap.size w w':=by
 refine pF ?_;intro i0 hi af ak aq w1 s p q L o;go_enter func68,ntmps68;go_wp2_with fail;clear s;go_loopw [2,4,5] (fun v i _ wr=>∃(k g cap:Nat) (Z:List Int),k<=288/\i=.int .i64 k/\v=.slice (some ⟨g,0,none⟩) Z.length cap/\Z.length<=288/\dm (Z.length=k)/\dm (Z=F288.take k)/\dm (wr.ownsRow w.heap.size 2 1 (.slice (some ⟨g,0,none⟩) Z.length cap) Z.length (Z.map (Value.int .i64)))/\dm (g≠w.heap.size+1)/\dm (wr.heap[w.heap.size+1]?=some (.cells #[] 2 (0,0)))/\w.heap.size+1<wr.heap.size/\dm (Below w.heap.size w wr)) (fun _ i _ _=>288-(intOf i).toNat)
 case atStart=>exact ⟨0,_,0,[],Nat.zero_le _,rfl,rfl,dr,rfl,rfl,p,(by show _≠_;omega),q,L,o⟩
 case round=>
  clear p q L o;obtain ⟨k,g,cap,Z,hk,rfl,rfl,N,d,HZ,HO,HG,b,s,HB⟩:=hrel;have a:g≠w.heap.size+1:=HG.u;by_cases ab:k<288
  ·have aF:w.heap.size<=g:=(HO.u.lt g rfl).1
   have ad:g<wr.heap.size:=(HO.u.lt g rfl).2;have C:=HB.u.size;refine iq ?_;intro ah m;by_cases J:k<144
   ·skip
    have HN:=Qg<|Qf7 wr (.int .i64 8) 2
    have f:dm (Z++[(8:Int)]=F288.take (k+1)):=by show _=_;rw [HZ.u,Vg F288 k eC,Qdo k dk,Qrw J]
    exact ir
   ·by_cases h2:k<256
    ·skip
     have HN:=Qg<|Qf7 wr (.int .i64 9) 2
     have f:dm (Z++[(9:Int)]=F288.take (k+1)):=by show _=_;rw [HZ.u,Vg F288 k eC,Qdo k dk,QrP J h2]
     exact pG
    ·by_cases h3:k<280
     ·skip
      have HN:=Qg<|Qf7 wr (.int .i64 7) 2
      have f:dm (Z++[(7:Int)]=F288.take (k+1)):=by show _=_;rw [HZ.u,Vg F288 k eC,Qdo k dk,Qrs h2 h3]
      exact pH
     ·skip
      have HN:=Qg<|Qf7 wr (.int .i64 8) 2
      have f:dm (Z++[(8:Int)]=F288.take (k+1)):=by show _=_;rw [HZ.u,Vg F288 k eC,Qdo k dk,Qr3 h3]
      exact ir
  ·have e:k=288:=dk
   have E:Z=F288:=pI;subst E;have K:dm (wr.ownsRow (w.heap.size+1) 2 1 (.slice (some ⟨w.heap.size+1,0,none⟩) 0 0) 0 []):=⟨rfl,.inr ⟨w.heap.size+1,0,#[],rfl,Nat.le_refl _,b.u,Nat.le_refl _,dy,rfl,rfl⟩⟩;clear e hk;go_wp2_with fail;go_loopw [3,6] (fun v i wx=>∃(j gd cd:Nat) (D:List Value),j<=32/\i=.int .i64 j/\v=.slice (some ⟨gd,0,none⟩) j cd/\dm (wx.ownsRow (w.heap.size+1) 2 1 (.slice (some ⟨gd,0,none⟩) j cd) j D)/\dm (D=(List.replicate j (5:Int)).map (Value.int .i64))/\gd≠g/\dm (wx.ownsRow w.heap.size 2 1 (.slice (some ⟨g,0,none⟩) F288.length cap) F288.length (F288.map (Value.int .i64)))/\dm (Below w.heap.size w wx)) (fun _ i _=>32-(intOf i).toNat)
   case atStart=>exact ⟨0,_,0,[],Nat.zero_le _,rfl,rfl,K,rfl,(fun e=>HG.u e.symm),HO,HB⟩
   case round=>
    clear K HO HB HG b s;obtain ⟨j,gd,cd,D,hj,rfl,rfl,HD,HE,an,HO,HB⟩:=hrel;by_cases ab:j<32
    ·have a2:w.heap.size+1<=gd:=(HD.u.lt gd rfl).1
     refine pJ ?_;intro ad C I;refine iq ?_;intro ah m;have HN:=Qg<|Qf7 wr (.int .i64 5) 2
     go_wp2_with (at_builtin;refine wpList_append_lies _ rfl _ _ 70 rfl (w.heap.size+1) 2 i0 (.int .i64 0) 1 8 underlying70 hi af ak aq rfl dn (.slice (some ⟨gd,0,none⟩) j cd) j D rfl (I.u _ _) ⟨wr.heap.size,0,none⟩ 1 1 [.int .i64 5] rfl rfl HN.u eB dn dy dk du _ rfl ?_)
     intro g4 c4 w4 R Q aa l;have a6:=Qg R;have O:dm (D++[Value.int .i64 5]=(List.replicate (j+1) (5:Int)).map (Value.int .i64)):=by show _=_;rw [HE.u,List.replicate_succ',List.map_append];rfl
     refine pK ?_;intro U F M;clear R Q aa HN I ah m HD HO HB;go_wp2_with fail;exact ⟨⟨j+1,g4,c4,_,dk,dw,rfl,a6,O,M,U,F⟩,dM⟩
    ·have hj:j=32:=dk
     subst hj;have x:dm (Qv wr (some ⟨g,0,none⟩) F288):=QR.row (B:=w.heap.size) (cap:=cap) HO.u;have z:dm (Qv wr (some ⟨gd,0,none⟩) F32):=QR.row (B:=w.heap.size+1) (cap:=cd) (by rw [HE.u] at HD;exact HD.u);go_wp2_with fail;exact bodyPost_ret (v:=.tuple #[.slice (some ⟨g,0,none⟩) F288.length cap,.slice (some ⟨gd,0,none⟩) 32 cd]) pL rfl ⟨g,cap,gd,cd,rfl,x.u,z.u,HB.u⟩
end
end Go.Proofs.YtgginbpmebgkcaaGreatDoor
namespace Go.Proofs.YtgginbpmebgkcaaGreatDoor
open Go.RowKit Go.Proofs.Tryz
set_option linter.unusedVariables false
set_option maxRecDepth 100000
set_option maxHeartbeats 25600000
section
variable{w w' wr:World}{v tv:Value}{i cl D s Mx:Int}{B z c row b:Nat}{a0 a:Option Addr}{all:List Int}
theorem Qi.lower2{e:Nat}{ao:Option Addr}{cap:Nat}{zs:List Int}(h:Qi e B w ao cap zs):∀g,Qt ao=some g->g<w.heap.size:=by
 intro g e;cases ao with
 | none=>cases e
 | some ad=>
  have:=(h.mine.lies ad rfl).2.1;exact fd
structure SM(z:Nat)(w:World)(v:Value)(i cl:Int)(tv:Value)(D s Mx:Int):Prop where
 r:L5m w z v i cl
 t0:w.cell? ⟨z+1,0,none⟩=some tv
 t1:w.cell? ⟨z+1,1,none⟩=some (.int .i64 D)
 t2:w.cell? ⟨z+1,2,none⟩=some (.int .i64 s)
 t3:w.cell? ⟨z+1,3,none⟩=some (.int .i64 Mx)
 x:L5m w (z+2) (.slice none 0 0) 0 0
 y0:w.cell? ⟨z+3,0,none⟩=some (.slice none 0 0)
 y1:w.cell? ⟨z+3,1,none⟩=some (.int .i64 0)
 y2:w.cell? ⟨z+3,2,none⟩=some (.int .i64 0)
 y3:w.cell? ⟨z+3,3,none⟩=some (.int .i64 0)
 tf:∀o,w.frozen? ⟨z+1,o,none⟩=false
 yf:∀o,w.frozen? ⟨z+3,o,none⟩=false
theorem SM.lt(h:SM z w v i cl tv D s Mx):z+3<w.heap.size:=World.block_lt_of_cell? w _ h.y0
theorem SM.grown{row:Option Nat}(h:SM z w v i cl tv D s Mx)(hg:w.grownBy w' row)(hne:∀k,row=some k->k<z\/z+4<=k):SM z w' v i cl tv D s Mx:=by
 have hl:=h.lt;have Z:some (z+1)≠row:=fun e=>iu
 have n3:some (z+3)≠row:=fun e=>iu
 have e1:=hg.block (z+1) dk Z;have R:=hg.block (z+3) dk n3;have c1:∀o,w'.cell? ⟨z+1,o,none⟩=w.cell? ⟨z+1,o,none⟩:=fun o=>World.cell?_of_block (w:=w) (a:=⟨z+1,o,none⟩) e1
 have c3:∀o,w'.cell? ⟨z+3,o,none⟩=w.cell? ⟨z+3,o,none⟩:=fun o=>World.cell?_of_block (w:=w) (a:=⟨z+3,o,none⟩) R
 exact ⟨h.r.grown hg (fun e=>iu),(c1 0).trans h.t0,(c1 1).trans h.t1,(c1 2).trans h.t2,(c1 3).trans h.t3,h.x.grown hg (fun e=>iu),(c3 0).trans h.y0,(c3 1).trans h.y1,(c3 2).trans h.y2,(c3 3).trans h.y3,
  fun o=>(World.frozen?_of_block (w:=w) (a:=⟨z+1,o,none⟩) e1).trans (h.tf o),fun o=>(World.frozen?_of_block (w:=w) (a:=⟨z+3,o,none⟩) R).trans (h.yf o)⟩
theorem SM.below(h:SM z w v i cl tv D s Mx)(hb:Below w.heap.size w w'):SM z w' v i cl tv D s Mx:=h.grown (Qk hb none) (fun k e=>dx)
def w4(w:World)(v:Value)(i cl:Int)(tv:Value)(D s Mx:Int)(tr tt:TypeId):World:=
 (((w.alloc (.cells #[v,.int .i64 i,.int .i64 cl] tr)).alloc (.cells #[tv,.int .i64 D,.int .i64 s,.int .i64 Mx] tt)).alloc (.cells #[.slice none 0 0,.int .i64 0,.int .i64 0] tr)).alloc (.cells #[.slice none 0 0,.int .i64 0,.int .i64 0,.int .i64 0] tt)
theorem QbQ(w:World)(v:Value)(i cl:Int)(tv:Value)(D s Mx:Int)(tr tt:TypeId):Below w.heap.size w (w4 w v i cl tv D s Mx tr tt):=
 (((((Below.refl _ _).alloc (Nat.le_refl _) _).alloc dr _).alloc du _).alloc du _)
theorem Qhi(w:World)(v:Value)(i cl:Int)(tv:Value)(D s Mx:Int)(tr tt:TypeId):(w4 w v i cl tv D s Mx tr tt).heap.size=w.heap.size+4:=by unfold w4;simp
theorem QmI(w:World)(A0 A1 A2 A3:Obj):((((w.alloc A0).alloc A1).alloc A2).alloc A3).heap[w.heap.size]?=some A0/\((((w.alloc A0).alloc A1).alloc A2).alloc A3).heap[w.heap.size+1]?=some A1/\((((w.alloc A0).alloc A1).alloc A2).alloc A3).heap[w.heap.size+2]?=some A2/\((((w.alloc A0).alloc A1).alloc A2).alloc A3).heap[w.heap.size+3]?=some A3:=by
 simp only [World.alloc,Array.getElem?_push,Array.size_push];refine ⟨?_,?_,?_,?_⟩
 ·rw [if_neg dk,if_neg dk,if_neg dk,if_pos trivial]
 ·rw [if_neg dk,if_neg dk,if_pos trivial]
 ·rw [if_neg dk,if_pos trivial]
 ·rw [if_pos trivial]
theorem Qrh(w:World)(v:Value)(i cl:Int)(tv:Value)(D s Mx:Int)(tr tt:TypeId):SM w.heap.size (w4 w v i cl tv D s Mx tr tt) v i cl tv D s Mx:=by
 obtain ⟨H,J,h2,h3⟩:=QmI w (.cells #[v,.int .i64 i,.int .i64 cl] tr) (.cells #[tv,.int .i64 D,.int .i64 s,.int .i64 Mx] tt) (.cells #[.slice none 0 0,.int .i64 0,.int .i64 0] tr) (.cells #[.slice none 0 0,.int .i64 0,.int .i64 0,.int .i64 0] tt);have g:∀(b:Nat) (A:Array Value) (t:TypeId),(w4 w v i cl tv D s Mx tr tt).heap[b]?=some (.cells A t)->(∀o:Nat,(w4 w v i cl tv D s Mx tr tt).cell? ⟨b,o,none⟩=A[o]?)/\∀o:Nat,(w4 w v i cl tv D s Mx tr tt).frozen? ⟨b,o,none⟩=false:=by
  intro b A t h;refine ⟨fun o=>?_,fun o=>?_⟩
  ·simp [World.cell?,h]
  ·simp [World.frozen?,h]
 obtain ⟨m,f0⟩:=g _ _ _ H;obtain ⟨a1,f1⟩:=g _ _ _ J;obtain ⟨a2,f2⟩:=g _ _ _ h2;obtain ⟨q,f3⟩:=g _ _ _ h3;exact ⟨⟨m 0,m 1,m 2,f0⟩,a1 0,a1 1,a1 2,a1 3,⟨a2 0,a2 1,a2 2,f2⟩,q 0,q 1,q 2,q 3,f1,f3⟩
def wR(w:World)(z:Nat)(v:Value)(i cl:Int):World:=((w.setCell ⟨z,0,none⟩ v).setCell ⟨z,1,none⟩ (.int .i64 i)).setCell ⟨z,2,none⟩ (.int .i64 cl)
def wT(w:World)(z:Nat)(tv:Value)(D s Mx:Int):World:=(((w.setCell ⟨z,0,none⟩ tv).setCell ⟨z,1,none⟩ (.int .i64 D)).setCell ⟨z,2,none⟩ (.int .i64 s)).setCell ⟨z,3,none⟩ (.int .i64 Mx)
theorem QD(w:World)(z:Nat)(v:Value)(i cl:Int):w.grownBy (wR w z v i cl) (some z):=Qj (Qj (Qf w ⟨z,0,none⟩ _) (Qf _ ⟨z,1,none⟩ _)) (Qf _ ⟨z,2,none⟩ _)
theorem Qac(w:World)(z:Nat)(tv:Value)(D s Mx:Int):w.grownBy (wT w z tv D s Mx) (some z):=Qj (Qj (Qj (Qf w ⟨z,0,none⟩ _) (Qf _ ⟨z,1,none⟩ _)) (Qf _ ⟨z,2,none⟩ _)) (Qf _ ⟨z,3,none⟩ _)
theorem QK(hg:w.grownBy w' (some row))(hb:b<w.heap.size)(hne:b≠row)(o:Nat):w'.cell? ⟨b,o,none⟩=w.cell? ⟨b,o,none⟩:=World.cell?_of_block (w:=w) (a:=⟨b,o,none⟩) (hg.block b hb fj)
theorem Qa7(hg:w.grownBy w' (some row))(hb:b<w.heap.size)(hne:b≠row)(o:Nat):w'.frozen? ⟨b,o,none⟩=w.frozen? ⟨b,o,none⟩:=World.frozen?_of_block (w:=w) (a:=⟨b,o,none⟩) (hg.block b hb fj)
theorem SM.setR(h:SM z w v i cl tv D s Mx)(v':Value)(i' cl':Int):SM z (wR w z v' i' cl') v' i' cl' tv D s Mx:=by
 have hl:=h.lt;have O:=QD w z v' i' cl'
 have c:∀b o,b<w.heap.size->b≠z->(wR w z v' i' cl').cell? ⟨b,o,none⟩=w.cell? ⟨b,o,none⟩:=fun b o hb hne=>QK O hb hne o
 have f:∀b o,b<w.heap.size->b≠z->(wR w z v' i' cl').frozen? ⟨b,o,none⟩=w.frozen? ⟨b,o,none⟩:=fun b o hb hne=>Qa7 O hb hne o
 exact ⟨(h.r.set v' i' cl').1,(c (z+1) 0 dk dk).trans h.t0,(c (z+1) 1 dk dk).trans h.t1,(c (z+1) 2 dk dk).trans h.t2,(c (z+1) 3 dk dk).trans h.t3,h.x.grown O dr,(c (z+3) 0 dk dk).trans h.y0,(c (z+3) 1 dk dk).trans h.y1,(c (z+3) 2 dk dk).trans h.y2,(c (z+3) 3 dk dk).trans h.y3,fun o=>(f (z+1) o dk dk).trans (h.tf o),fun o=>(f (z+3) o dk dk).trans (h.yf o)⟩
theorem QbI{u0 u1 u2 u3:Value}(h0:w.cell? ⟨z,0,none⟩=some u0)(h1:w.cell? ⟨z,1,none⟩=some u1)(h2:w.cell? ⟨z,2,none⟩=some u2)(h3:w.cell? ⟨z,3,none⟩=some u3)(tv:Value)(D s Mx:Int):
  (wT w z tv D s Mx).cell? ⟨z,0,none⟩=some tv/\(wT w z tv D s Mx).cell? ⟨z,1,none⟩=some (.int .i64 D)/\(wT w z tv D s Mx).cell? ⟨z,2,none⟩=some (.int .i64 s)/\(wT w z tv D s Mx).cell? ⟨z,3,none⟩=some (.int .i64 Mx)/\∀o,(wT w z tv D s Mx).frozen? ⟨z,o,none⟩=w.frozen? ⟨z,o,none⟩:=by
 have M:∀(W:World) (x:Value) (i j:Nat),i≠j->(W.setCell ⟨z,i,none⟩ x).cell? ⟨z,j,none⟩=W.cell? ⟨z,j,none⟩:=fun W x i j hij=>World.cell?_setCell_other _ _ _ _ dB
 unfold wT;refine ⟨?_,?_,?_,?_,fun o=>?_⟩
 ·rw [M _ _ 3 0 dn,M _ _ 2 0 dn,M _ _ 1 0 dn,World.cell?_setCell_same _ _ _ h0]
 ·rw [M _ _ 3 1 dn,M _ _ 2 1 dn,World.cell?_setCell_same _ _ _ (u:=u1) (by rw [M _ _ 0 1 dn];exact h1)]
 ·rw [M _ _ 3 2 dn,World.cell?_setCell_same _ _ _ (u:=u2) (by rw [M _ _ 1 2 dn,M _ _ 0 2 dn];exact h2)]
 ·rw [World.cell?_setCell_same _ _ _ (u:=u3) (by rw [M _ _ 2 3 dn,M _ _ 1 3 dn,M _ _ 0 3 dn];exact h3)]
 ·simp only [World.frozen?_setCell]
theorem SM.setT(h:SM z w v i cl tv D s Mx)(tv':Value):SM z (wT w (z+1) tv' D s Mx) v i cl tv' D s Mx:=by
 have hl:=h.lt;have O:=Qac w (z+1) tv' D s Mx;obtain ⟨m,a1,a2,q,a⟩:=QbI h.t0 h.t1 h.t2 h.t3 tv' D s Mx;have c:∀b o,b<w.heap.size->b≠z+1->(wT w (z+1) tv' D s Mx).cell? ⟨b,o,none⟩=w.cell? ⟨b,o,none⟩:=fun b o hb hne=>QK O hb hne o
 have f:∀b o,b<w.heap.size->b≠z+1->(wT w (z+1) tv' D s Mx).frozen? ⟨b,o,none⟩=w.frozen? ⟨b,o,none⟩:=fun b o hb hne=>Qa7 O hb hne o
 exact ⟨h.r.grown O dr,m,a1,a2,q,h.x.grown O dr,(c (z+3) 0 dk dk).trans h.y0,(c (z+3) 1 dk dk).trans h.y1,(c (z+3) 2 dk dk).trans h.y2,(c (z+3) 3 dk dk).trans h.y3,fun o=>(a o).trans (h.tf o),fun o=>(f (z+3) o dk dk).trans (h.yf o)⟩
def V8(v:Value)(D s Mx:Int)(B:Nat)(a0:Option Addr)(Rel:RR->List Int->Prop)(e:Ending)(w w':World):Prop:=
 ∃(i:Nat) (cl:Int) (a:Option Addr) (c:Nat) (all:List Int),e=.returned (.tuple #[.agg #[v,.int .i64 (i:Nat),.int .i64 cl],.agg #[.slice a all.length c,.int .i64 D,.int .i64 s,.int .i64 Mx]])/\Qi 5 B w' a c all/\w.grownBy w' (Qt a0)/\(∀g,Qt a=some g->Qt a0=some g\/w.heap.size<=g)/\Rel (i,cl) all
structure SI(w:World)(a0:Option Addr)(B:Nat)(wr:World)(v:Value)(i cl:Int)(a:Option Addr)(c:Nat)(all:List Int)(D s Mx:Int):Prop where
 sm:SM w.heap.size wr v i cl (.slice a all.length c) D s Mx
 own:Qi 5 B wr a c all
 gr:w.grownBy wr (Qt a0)
 far:∀g,Qt a=some g->Qt a0=some g\/w.heap.size+4<=g
 low:∀g,Qt a0=some g->g<w.heap.size
theorem SI.u(h:SI w a0 B wr v i cl a c all D s Mx):∀k,Qt a=some k->k<w.heap.size\/w.heap.size+4<=k:=fun k e=>by
 rcases h.far k e with h1|h1
 ·exact .inl (h.low k h1)
 ·exact .inr h1
theorem Qfi(w:World)(a0:Option Addr)(B:Nat)(v:Value)(i cl:Int)(c:Nat)(all:List Int)(D s Mx:Int)(tr tt:TypeId)(ho:Qi 5 B w a0 c all):SI w a0 B (w4 w v i cl (.slice a0 all.length c) D s Mx tr tt) v i cl a0 c all D s Mx:=
 ⟨Qrh _ _ _ _ _ _ _ _ _ _,ho.below (QbQ _ _ _ _ _ _ _ _ _ _),Qk (QbQ _ _ _ _ _ _ _ _ _ _) _,fun g e=>.inl e,ho.lower2⟩
theorem SI.below(h:SI w a0 B wr v i cl a c all D s Mx)(hb:Below wr.heap.size wr w'):SI w a0 B w' v i cl a c all D s Mx:=
 ⟨h.sm.below hb,h.own.below hb,Qp h.gr (Qk hb none) (fun g e=>dx),h.far,h.low⟩
theorem SI.setR(h:SI w a0 B wr v i cl a c all D s Mx)(v':Value)(i' cl':Int):SI w a0 B (wR wr w.heap.size v' i' cl') v' i' cl' a c all D s Mx:=
 ⟨h.sm.setR v' i' cl',h.own.grown (QD _ _ _ _ _) (fun k e e2=>fW),Qp h.gr (QD _ _ _ _ _) (fun g e=>ej),h.far,h.low⟩
theorem SI.told(h:SI w a0 B wr v i cl a c all D s Mx){a':Option Addr}{c':Nat}{all':List Int}(ho:Qi 5 B w' a' c' all')(hg:wr.grownBy w' (Qt a))(hf:∀g,Qt a'=some g->Qt a=some g\/wr.heap.size<=g)(v':Value)(i' cl':Int):
  SI w a0 B (wT (wR w' w.heap.size v' i' cl') (w.heap.size+1) (.slice a' all'.length c') D s Mx) v' i' cl' a' c' all' D s Mx:=by
 refine pM ?_;intro hl j f;have aG:∀k,Qt a'=some k->k<w.heap.size\/w.heap.size+4<=k:=fun k e=>by
  rcases f k e with J|J
  ·exact .inl (h.low k J)
  ·exact .inr J
 have Y:w.grownBy w' (Qt a0):=Qp h.gr hg (fun g e=>by
  rcases h.far g e with J|J
  ·exact .inl J
  ·exact .inr dk)
 refine ⟨(j.setR v' i' cl').setT _,(ho.grown (QD _ _ _ _ _) (fun k e e2=>iv)).grown (Qac _ _ _ _ _ _) (fun k e e2=>iv),?_,f,h.low⟩;exact Qp (Qp Y (QD _ _ _ _ _) (fun g e=>ej)) (Qac _ _ _ _ _ _) (fun g e=>ej)
theorem SI.done(h:SI w a0 B wr v i cl a c all D s Mx)(W:World)(hW:W=wT (wR wr (w.heap.size+2) v i cl) (w.heap.size+3) (.slice a all.length c) D s Mx\/W=wR (wT wr (w.heap.size+3) (.slice a all.length c) D s Mx) (w.heap.size+2) v i cl):
  (W.cell? ⟨w.heap.size+2,0,none⟩=some v/\W.cell? ⟨w.heap.size+2,1,none⟩=some (.int .i64 i)/\W.cell? ⟨w.heap.size+2,2,none⟩=some (.int .i64 cl)/\W.cell? ⟨w.heap.size+3,0,none⟩=some (.slice a all.length c)/\W.cell? ⟨w.heap.size+3,1,none⟩=some (.int .i64 D)/\W.cell? ⟨w.heap.size+3,2,none⟩=some (.int .i64 s)/\W.cell? ⟨w.heap.size+3,3,none⟩=some (.int .i64 Mx))/\Qi 5 B W a c all/\w.grownBy W (Qt a0)/\(∀g,Qt a=some g->Qt a0=some g\/w.heap.size<=g):=by
 have hl:=h.sm.lt;have f:∀g,Qt a=some g->Qt a0=some g\/w.heap.size<=g:=fun g e=>by
  rcases h.far g e with J|J
  ·exact .inl J
  ·exact .inr dk
 rcases hW with rfl|rfl
 ·have hx:=h.sm.x.set v i cl
  have g1:=QD wr (w.heap.size+2) v i cl;have g2:=Qac (wR wr (w.heap.size+2) v i cl) (w.heap.size+3) (.slice a all.length c) D s Mx;have r:(w.heap.size+2)<(wR wr (w.heap.size+2) v i cl).heap.size:=Nat.lt_of_lt_of_le dk g1.size;obtain ⟨k0,k1,k2,_⟩:=hx.1;have c3:∀o,(wR wr (w.heap.size+2) v i cl).cell? ⟨w.heap.size+3,o,none⟩=wr.cell? ⟨w.heap.size+3,o,none⟩:=fun o=>QK g1 dk dk o
  obtain ⟨b,a1,a2,q,_⟩:=QbI ((c3 0).trans h.sm.y0) ((c3 1).trans h.sm.y1) ((c3 2).trans h.sm.y2) ((c3 3).trans h.sm.y3) (.slice a all.length c) D s Mx;refine ⟨⟨(QK g2 r dk 0).trans k0,(QK g2 r dk 1).trans k1,(QK g2 r dk 2).trans k2,b,a1,a2,q⟩,?_,?_,f⟩
  ·exact pN
  ·exact pO
 ·have g1:=Qac wr (w.heap.size+3) (.slice a all.length c) D s Mx
  have g2:=QD (wT wr (w.heap.size+3) (.slice a all.length c) D s Mx) (w.heap.size+2) v i cl;have r:(w.heap.size+3)<(wT wr (w.heap.size+3) (.slice a all.length c) D s Mx).heap.size:=Nat.lt_of_lt_of_le dk g1.size;obtain ⟨b,a1,a2,q,_⟩:=QbI h.sm.y0 h.sm.y1 h.sm.y2 h.sm.y3 (.slice a all.length c) D s Mx;obtain ⟨k0,k1,k2,_⟩:=((h.sm.x.grown g1 dr).set v i cl).1;refine ⟨⟨k0,k1,k2,(QK g2 r dk 0).trans b,(QK g2 r dk 1).trans a1,(QK g2 r dk 2).trans a2,(QK g2 r dk 3).trans q⟩,?_,?_,f⟩
  ·exact pN
  ·exact pO
end
end Go.Proofs.YtgginbpmebgkcaaGreatDoor
namespace Go.Proofs.YtgginbpmebgkcaaGreatDoor
open Go.RowKit Go.Proofs.Tryz
attribute [local go_sem ↓] Go.wp_at_zero Go.wp_at_succ
set_option linter.unusedVariables false
set_option maxRecDepth 100000
set_option maxHeartbeats 25600000
section
variable{w wr:World}{v tv:Value}{cl D s Mx i:Int}{a0 a:Option Addr}{B c z:Nat}{all:List Int}
theorem Qi3(w:World)(v:Value)(i cl:Int)(tv:Value)(D s Mx:Int)(tr tt:TypeId):(((w.alloc (.cells #[v,.int .i64 i,.int .i64 cl] tr)).alloc (.cells #[tv,.int .i64 D,.int .i64 s,.int .i64 Mx] tt)).alloc (.cells #[.slice none 0 0,.int .i64 0,.int .i64 0] tr)).alloc (.cells #[.slice none 0 0,.int .i64 0,.int .i64 0,.int .i64 0] tt)=w4 w v i cl tv D s Mx tr tt:=rfl
theorem SM.cls(h:SM z w v i cl tv D s Mx)(x:Int):SM z (w.setCell ⟨z,2,none⟩ (.int .i64 x)) v i x tv D s Mx:=by
 have hl:=h.lt;have O:=Qf w ⟨z,2,none⟩ (.int .i64 x);have c:∀b o,b<w.heap.size->b≠z->(w.setCell ⟨z,2,none⟩ (.int .i64 x)).cell? ⟨b,o,none⟩=w.cell? ⟨b,o,none⟩:=fun b o hb hne=>QK O hb hne o
 have f:∀b o,b<w.heap.size->b≠z->(w.setCell ⟨z,2,none⟩ (.int .i64 x)).frozen? ⟨b,o,none⟩=w.frozen? ⟨b,o,none⟩:=fun b o hb hne=>Qa7 O hb hne o
 exact ⟨h.r.set2 x,(c (z+1) 0 dk dk).trans h.t0,(c (z+1) 1 dk dk).trans h.t1,(c (z+1) 2 dk dk).trans h.t2,(c (z+1) 3 dk dk).trans h.t3,h.x.grown O dr,(c (z+3) 0 dk dk).trans h.y0,(c (z+3) 1 dk dk).trans h.y1,(c (z+3) 2 dk dk).trans h.y2,(c (z+3) 3 dk dk).trans h.y3,fun o=>(f (z+1) o dk dk).trans (h.tf o),fun o=>(f (z+3) o dk dk).trans (h.yf o)⟩
theorem SM.plc(h:SM z w v i cl tv D s Mx)(x:Int):SM z (w.setCell ⟨z,1,none⟩ (.int .i64 x)) v x cl tv D s Mx:=by
 have hl:=h.lt;have O:=Qf w ⟨z,1,none⟩ (.int .i64 x);have c:∀b o,b<w.heap.size->b≠z->(w.setCell ⟨z,1,none⟩ (.int .i64 x)).cell? ⟨b,o,none⟩=w.cell? ⟨b,o,none⟩:=fun b o hb hne=>QK O hb hne o
 have f:∀b o,b<w.heap.size->b≠z->(w.setCell ⟨z,1,none⟩ (.int .i64 x)).frozen? ⟨b,o,none⟩=w.frozen? ⟨b,o,none⟩:=fun b o hb hne=>Qa7 O hb hne o
 exact ⟨h.r.set1 x,(c (z+1) 0 dk dk).trans h.t0,(c (z+1) 1 dk dk).trans h.t1,(c (z+1) 2 dk dk).trans h.t2,(c (z+1) 3 dk dk).trans h.t3,h.x.grown O dr,(c (z+3) 0 dk dk).trans h.y0,(c (z+3) 1 dk dk).trans h.y1,(c (z+3) 2 dk dk).trans h.y2,(c (z+3) 3 dk dk).trans h.y3,fun o=>(f (z+1) o dk dk).trans (h.tf o),fun o=>(f (z+3) o dk dk).trans (h.yf o)⟩
theorem SI.cls(h:SI w a0 B wr v i cl a c all D s Mx)(x:Int):SI w a0 B (wr.setCell ⟨w.heap.size,2,none⟩ (.int .i64 x)) v i x a c all D s Mx:=
 ⟨h.sm.cls x,h.own.grown (Qf _ _ _) (fun k e e2=>fW),Qp h.gr (Qf _ _ _) (fun g e=>ej),h.far,h.low⟩
theorem SI.plc(h:SI w a0 B wr v i cl a c all D s Mx)(x:Int):SI w a0 B (wr.setCell ⟨w.heap.size,1,none⟩ (.int .i64 x)) v x cl a c all D s Mx:=
 ⟨h.sm.plc x,h.own.grown (Qf _ _ _) (fun k e e2=>fW),Qp h.gr (Qf _ _ _) (fun g e=>ej),h.far,h.low⟩
theorem SM.one(h:SM z w v i cl tv D s Mx)(x:Value):SM z (w.setCell ⟨z+1,0,none⟩ x) v i cl x D s Mx:=by
 have hl:=h.lt;have O:=Qf w ⟨z+1,0,none⟩ x;have c:∀b o,b<w.heap.size->b≠z+1->(w.setCell ⟨z+1,0,none⟩ x).cell? ⟨b,o,none⟩=w.cell? ⟨b,o,none⟩:=fun b o hb hne=>QK O hb hne o
 have f:∀b o,b<w.heap.size->b≠z+1->(w.setCell ⟨z+1,0,none⟩ x).frozen? ⟨b,o,none⟩=w.frozen? ⟨b,o,none⟩:=fun b o hb hne=>Qa7 O hb hne o
 exact ⟨h.r.grown O dr,World.cell?_setCell_same _ _ _ h.t0,Qao _ dn h.t1,Qao _ dn h.t2,Qao _ dn h.t3,h.x.grown O dr,(c (z+3) 0 dk dk).trans h.y0,(c (z+3) 1 dk dk).trans h.y1,(c (z+3) 2 dk dk).trans h.y2,(c (z+3) 3 dk dk).trans h.y3,fun o=>by rw [World.frozen?_setCell];exact h.tf o,fun o=>(f (z+3) o dk dk).trans (h.yf o)⟩
theorem SI.grew{w':World}(h:SI w a0 B wr v i cl a c all D s Mx){a':Option Addr}{c':Nat}{all':List Int}(ho:Qi 5 B w' a' c' all')(hg:wr.grownBy w' (Qt a))(hf:∀g,Qt a'=some g->Qt a=some g\/wr.heap.size<=g):
  SI w a0 B (w'.setCell ⟨w.heap.size+1,0,none⟩ (.slice a' all'.length c')) v i cl a' c' all' D s Mx:=by
 refine pM ?_;intro hl j f;have Y:w.grownBy w' (Qt a0):=Qp h.gr hg (fun g e=>by
  rcases h.far g e with J|J
  ·exact .inl J
  ·exact .inr dk)
 refine ⟨j.one _,ho.grown (Qf _ _ _) (fun k e e2=>by
  simp at e;rcases f k e2 with J|J
  ·have:=h.low k J;omega
  ·omega),Qp Y (Qf _ _ _) (fun g e=>ej),f,h.low⟩
theorem SI.post{i:Nat}{Rel:RR->List Int->Prop}(h:SI w a0 B wr v (i:Nat) cl a c all D s Mx)(hrel:Rel (i,cl) all)(W:World)(hW:W=wT (wR wr (w.heap.size+2) v (i:Nat) cl) (w.heap.size+3) (.slice a all.length c) D s Mx\/W=wR (wT wr (w.heap.size+3) (.slice a all.length c) D s Mx) (w.heap.size+2) v (i:Nat) cl):
  (W.cell? ⟨w.heap.size+2,0,none⟩=some v/\W.cell? ⟨w.heap.size+2,1,none⟩=some (.int .i64 (i:Nat))/\W.cell? ⟨w.heap.size+2,2,none⟩=some (.int .i64 cl)/\W.cell? ⟨w.heap.size+3,0,none⟩=some (.slice a all.length c)/\W.cell? ⟨w.heap.size+3,1,none⟩=some (.int .i64 D)/\W.cell? ⟨w.heap.size+3,2,none⟩=some (.int .i64 s)/\W.cell? ⟨w.heap.size+3,3,none⟩=some (.int .i64 Mx))/\V8 v D s Mx B a0 Rel (.returned (.tuple #[.agg #[v,.int .i64 (i:Nat),.int .i64 cl],.agg #[.slice a all.length c,.int .i64 D,.int .i64 s,.int .i64 Mx]])) w W.drew/\V8 v D s Mx B a0 Rel (.returned (.tuple #[.agg #[v,.int .i64 (i:Nat),.int .i64 cl],.agg #[.slice a all.length c,.int .i64 D,.int .i64 s,.int .i64 Mx]])) w W:=by
 obtain ⟨k,b,f,d⟩:=h.done W hW;exact ⟨k,⟨i,cl,a,c,all,rfl,b.below (Below.refl _ _).drew,Qp f (Qk (Below.refl _ _).drew none) (fun g e=>dx),d,hrel⟩,i,cl,a,c,all,rfl,b,f,d,hrel⟩
theorem Qdm(ao:Option Addr)(Z cap i:Nat)(cl:Int)(a:Option Addr)(c:Nat)(all:List Int)(D s:Nat)(Mx:Int)(pr:List Int)(hMx:dm (Mx=100000-(pr.length:Int)))(da:Option Addr)(dc:Nat)(data:List Int)(B:Nat)(w:World)(ho:Qi 5 B w a c all)(hB:B<=w.heap.size)(hr:Q1 w da data)(hnil:da=none->data.length=0/\dc=0)(hD:D<=all.length)(hal:all.length<=200000)(hdl:data.length<=1000):
  Calls prog 118 #[.agg #[.slice ao Z cap,.int .i64 (i:Nat),.int .i64 cl],.agg #[.slice a all.length c,.int .i64 (D:Nat),.int .i64 (s:Nat),.int .i64 Mx],.slice da data.length dc] w fun e w'=>V8 (.slice ao Z cap) (D:Nat) (s:Nat) Mx B a (fun r' all'=>(r',all')=tlP pr D (i,cl) all data) e w w':=by
 refine dP ?_;intro i0 hi af ak aq;have S0:=Qe<|Qfi w a B (.slice ao Z cap) (i:Nat) cl c all (D:Nat) (s:Nat) Mx 85 91 ho
 have HR:=Qe<|hr.below (QbQ w (.slice ao Z cap) (i:Nat) cl (.slice a all.length c) (D:Nat) (s:Nat) Mx 85 91)
 have HZ:=Qhi w (.slice ao Z cap) (i:Nat) cl (.slice a all.length c) (D:Nat) (s:Nat) Mx 85 91;have HN:=Qe hnil;clear ho hr hnil;go_enter func118,ntmps118;go_upto_region 1 with fail;rw [Qi3];generalize w4 w (.slice ao Z cap) (i:Nat) cl (.slice a all.length c) (D:Nat) (s:Nat) Mx 85 91=W at*;obtain ⟨⟨b0,b1,b2,C⟩,t0,t1,t2,t3,⟨V,u,x2,t⟩,y0,F,y2,y3,P,l⟩:=S0.u.sm;by_cases I:cl=0
 ·subst I
  by_cases hL:100000<pr.length+(all.length-D)+data.length
  ·have hd:decide ((all.length:Int)-(D:Int)+(data.length:Int) > Mx)=true:=decide_eq_true (by have:=hMx.u;omega)
   have HT:dm (((i,(6:Int)),all)=tlP pr D (i,0) all data):=by show _=_;unfold tlP;rw [if_pos rfl,if_pos hL]
   have S1:=Qe<|S0.u.cls 6
   clear hL;go_upto_region 5 with fail;generalize W.setCell ⟨w.heap.size,2,none⟩ (.int .i64 6)=W1 at*;clear b0 b1 b2 C t0 t1 t2 t3 V u x2 t y0 F y2 y3 P l HZ S0;obtain ⟨⟨b0,b1,b2,C⟩,t0,t1,t2,t3,⟨V,u,x2,t⟩,y0,F,y2,y3,P,l⟩:=S1.u.sm;refine iw ?_;intro aE aD aC aK aO aB aF;clear C t P l;have DN:=Qe (fun W hW=>S1.u.post (Rel:=fun r' all'=>(r',all')=tlP pr D (i,0) all data) HT.u W hW);clear S1;go_region
   go_wp2_with fail;have U:=DN.u _ (.inl rfl);unfold wT wR at U;obtain ⟨⟨k0,k1,k2,k3,k4,k5,k6⟩,P1,P2⟩:=U;exact bodyPost_ret (v:=.tuple #[.agg #[.slice ao Z cap,.int .i64 (i:Nat),.int .i64 6],.agg #[.slice a (List.length all) c,.int .i64 (D:Nat),.int .i64 (s:Nat),.int .i64 Mx]]) kB rfl d8
  ·have hd:decide ((all.length:Int)-(D:Int)+(data.length:Int) > Mx)=false:=decide_eq_false (by have:=hMx.u;omega)
   have HT:dm (((i,(0:Int)),all++data)=tlP pr D (i,0) all data):=by show _=_;unfold tlP;rw [if_pos rfl,if_neg hL]
   have HO:=Qe S0.u.own;clear hL C t P l V u x2 y0 F y2 y3;go_wp2_with (at_builtin;refine Qm _ rfl _ _ 22 rfl B 5 i0 (.int .u8 0) 1 underlying22 hi af ak aq rfl (.slice a all.length c) all.length (all.map (Value.int .u8)) rfl HO.u da dc data rfl HR.u HN.u dy dk dk ?_)
   intro v' w1 R Q aa;rw [<-List.map_append] at R;obtain ⟨a',c',e',al⟩:=Qi.of R;subst e'
   have x:(Value.slice a' (all++data).length c').ownBlock=Qt a':=by cases a'<;>rfl
   have H:(Value.slice a all.length c).ownBlock=Qt a:=by cases a<;>rfl
   rw [x,H] at aa;rw [H] at Q;have S1:=Qe (S0.u.grew al Q (fun g e=>by
    rcases aa with J|J
    ·exact .inl (J▸e)
    ·rw [J] at e;simp at e;exact .inr dk))
   obtain ⟨X,hX⟩:=dt (all++data);rw [hX] at S1 HT ⊢;have S9:=S0.u.sm.grown Q (fun k e=>S0.u.u k e);clear b0 b1 b2 t0 t1 t2 t3 HZ S0 R Q aa al HO x H;obtain ⟨⟨b0,b1,b2,C⟩,t0,t1,t2,t3,⟨V,u,x2,t⟩,y0,F,y2,y3,P,l⟩:=S9;have aH:=P 0;clear hX;clear C t P l;go_upto_region 5 with fail;generalize w1.setCell ⟨w.heap.size+1,0,none⟩ (.slice a' (List.length X) c')=W1 at*;clear b0 b1 b2 t0 t1 t2 t3 V u x2 y0 F y2 y3 aH;obtain ⟨⟨b0,b1,b2,C⟩,t0,t1,t2,t3,⟨V,u,x2,t⟩,y0,F,y2,y3,P,l⟩:=S1.u.sm;refine iw ?_;intro aE aD aC aK aO aB aF;clear C t P l;have DN:=Qe (fun W hW=>S1.u.post (Rel:=fun r' all'=>(r',all')=tlP pr D (i,0) all data) HT.u W hW);clear S1;go_region
   go_wp2_with fail;have U:=DN.u _ (.inl rfl);unfold wT wR at U;obtain ⟨⟨k0,k1,k2,k3,k4,k5,k6⟩,P1,P2⟩:=U;exact bodyPost_ret (v:=.tuple #[.agg #[.slice ao Z cap,.int .i64 (i:Nat),.int .i64 0],.agg #[.slice a' (List.length X) c',.int .i64 (D:Nat),.int .i64 (s:Nat),.int .i64 Mx]]) kB rfl d8
 ·have az:(cl == 0)=false:=dX
  have HT:dm (((i,cl),all)=tlP pr D (i,cl) all data):=by show _=_;unfold tlP;rw [if_neg I]
  clear I;go_upto_region 5 with fail;clear b0 b1 b2 C t0 t1 t2 t3 V u x2 t y0 F y2 y3 P l HZ;obtain ⟨⟨b0,b1,b2,C⟩,t0,t1,t2,t3,⟨V,u,x2,t⟩,y0,F,y2,y3,P,l⟩:=S0.u.sm;refine iw ?_;intro aE aD aC aK aO aB aF;clear C t P l;have DN:=Qe (fun W hW=>S0.u.post (Rel:=fun r' all'=>(r',all')=tlP pr D (i,cl) all data) HT.u W hW);clear S0;go_region
  go_wp2_with fail;have U:=DN.u _ (.inl rfl);unfold wT wR at U;obtain ⟨⟨k0,k1,k2,k3,k4,k5,k6⟩,P1,P2⟩:=U;exact bodyPost_ret (v:=.tuple #[.agg #[.slice ao Z cap,.int .i64 (i:Nat),.int .i64 cl],.agg #[.slice a (List.length all) c,.int .i64 (D:Nat),.int .i64 (s:Nat),.int .i64 Mx]]) kB rfl d8
end
theorem Qmq(n:Nat)(h0:257<n)(h1:n<=284):(VF n).1=(VF (n-1)).1+2^(VF (n-1)).2:=by
 have h:∀k:Fin 27,(VF (258+k.val)).1=(VF (258+k.val-1)).1+2^(VF (258+k.val-1)).2:=eg;have:=h ⟨n-258,dk⟩;dsimp only at this;rw [show 258+(n-258)=n from dk] at this;exact this
theorem QpI(n:Nat)(h0:265<=n)(h1:n<=284):(VF n).2=(n-261)/4:=by
 unfold VF;rw [if_neg dk,if_neg dk];show (n-257)/4-1=_;omega
theorem Qoe(n:Nat)(h1:n<265):(VF n).2=0:=by
 unfold VF;rw [if_pos h1]
theorem Qhw(n:Nat)(h0:257<=n)(h1:n<=285)(w:World):
  Calls prog 165 #[.int .i64 (n:Nat)] w fun e w'=>e=.returned (.tuple #[.int .i64 ((VF n).1:Nat),.int .i64 ((VF n).2:Nat)])/\w'=w:=by
 refine pP ?_;intro HP;by_cases U:n=285
 ·subst U
  go_enter func165,ntmps165;go_wp2_with fail;go_ret2;exact d6
 ·have az:((n:Int) == 285)=false:=du
  have ab:n<=284:=dk;clear U h1;go_enter func165,ntmps165;go_wp2_with fail;go_loop [4,5,6] (fun x y i=>∃(k b e:Nat),257<=k/\k<=n+1/\i=.int .i64 (k:Nat)/\x=.int .i64 (b:Nat)/\y=.int .i64 (e:Nat)/\dm (k=257->b=3/\e=0)/\dm (257<k->b=(VF (k-1)).1/\e=(VF (k-1)).2)/\b<=300/\e<=5) (fun _ _ i=>n+1-(intOf i).toNat)
  case atStart=>exact ⟨257,3,0,dk,dk,rfl,rfl,rfl,(fun _=>⟨rfl,rfl⟩:(257:Nat)=257->(3:Nat)=3/\(0:Nat)=0),(fun h=>absurd h dk:(257:Nat)<257->_),dk,dk⟩
  case round=>
   obtain ⟨k,b,e,aA,au,rfl,rfl,rfl,HA,HB,hb,he⟩:=hrel;by_cases a:k<=n
   ·have ar:=decide_eq_true (p:=(k:Int)<=(n:Int)) dk
    by_cases h7:k=257
    ·subst h7
     obtain ⟨rfl,rfl⟩:=HA.u rfl;go_wp2_with fail;go_round
     case rel=>exact ⟨258,3,0,dk,dk,dw,rfl,rfl,(fun h=>absurd h dk:(258:Nat)=257->_),(fun _=>⟨rfl,rfl⟩:(257:Nat)<258->(3:Nat)=(VF 257).1/\(0:Nat)=(VF 257).2),dk,dk⟩
     case measure=>simp [intOf];omega
    ·have I:decide ((k:Int) > 257)=true:=decide_eq_true dk
     obtain ⟨e1,e2⟩:=HB.u dk;have M:=Qmq k dk dk;rw [<-e1,<-e2] at M;have a8:=QhC k dk dk;obtain ⟨P,hP⟩:=dt (2^e);rw [hP] at M;have K:P<=32:=by rw [<-hP];exact Nat.pow_le_pow_right (n:=2) dn he
     have c:=Qe hP;have j:=Qe a8;have HN:=Qe M;clear e1 e2 M hP a8 HA HB h7;by_cases d:265<=k
     ·have g:decide ((k:Int)>=265)=true:=decide_eq_true dk
      obtain ⟨q,hq⟩:∃q:Nat,(k-261)/4=q:=⟨_,rfl⟩;have l:((k:Int)-261).tdiv 4=(q:Int):=by
       rw [Int.tdiv_eq_ediv_of_nonneg dk];omega
      have J:q<=5:=dk;have HX:dm (b+P=(VF k).1/\q=(VF k).2):=⟨HN.u.symm,by rw [QpI k d dk,hq]⟩;clear d hq;go_wp2_with fail;refine Calls.mono (HP.u e P _ dk c.u) ?_;rintro e' w1 ⟨rfl,rfl⟩;go_wp2_with fail;go_round
      case rel=>exact ⟨k+1,b+P,q,dk,dk,dw,dw,rfl,(fun h=>absurd h dk:k+1=257->_),(fun _=>HX.u:257<k+1->_),pQ,J⟩
      case measure=>simp [intOf];omega
     ·have g:decide ((k:Int)>=265)=false:=decide_eq_false dk
      have HX:dm (b+P=(VF k).1/\0=(VF k).2):=⟨HN.u.symm,by rw [Qoe k dk]⟩;clear d;go_wp2_with fail;refine Calls.mono (HP.u e P _ dk c.u) ?_;rintro e' w1 ⟨rfl,rfl⟩;go_wp2_with fail;go_round
      case rel=>exact ⟨k+1,b+P,0,dk,dk,dw,dw,rfl,(fun h=>absurd h dk:k+1=257->_),(fun _=>HX.u:257<k+1->_),pQ,dk⟩
      case measure=>simp [intOf];omega
   ·have f:k-1=n:=dk
    have HF:dm (b=(VF n).1/\e=(VF n).2):=by have:=HB.u dk;rw [f] at this;exact this
    clear HA HB f;go_wp2_with fail;go_ret2;rw [<-HF.u.1,<-HF.u.2];exact d6
theorem QjV(n:Nat)(h1:n<=29)(w:World):
  Calls prog 166 #[.int .i64 (n:Nat)] w fun e w'=>e=.returned (.tuple #[.int .i64 ((Qae n).1:Nat),.int .i64 ((Qae n).2:Nat)])/\w'=w:=by
 refine pP ?_;intro HP;by_cases h4:n<4
 ·have hd:decide ((n:Int)<4)=true:=decide_eq_true dk
  have HX:dm (n+1=(Qae n).1/\0=(Qae n).2):=by unfold Qae;rw [if_pos h4];exact ⟨rfl,rfl⟩
  clear h4;go_enter func166,ntmps166;exact pR
 ·have hd:decide ((n:Int)<4)=false:=decide_eq_false dk
  obtain ⟨q,hq⟩:∃q:Nat,n/2=q:=⟨_,rfl⟩;obtain ⟨m,hm⟩:∃m:Nat,n%2=m:=⟨_,rfl⟩;have l:((n:Int)).tdiv 2=(q:Int):=pS;have a:((n:Int)).tmod 2=(m:Int):=by rw [Int.tmod_eq_emod_of_nonneg dk];omega
  have aa:2<=q/\q<=14:=dk;have L:m<=1:=dk;obtain ⟨e,he⟩:∃e:Nat,q=e+1:=⟨q-1,dk⟩;obtain ⟨P,hP⟩:=dt (2^e);have K:P<=8192:=by rw [<-hP];exact Nat.pow_le_pow_right (n:=2) dn (by omega:e<=13)
  have HX:dm ((2+m)*P+1=(Qae n).1/\e=(Qae n).2):=by
   unfold Qae;rw [if_neg h4,hm,hq,he,Nat.add_sub_cancel,hP];exact d6
  have c:=Qe hP;have b:(q:Int)-1=(e:Int):=dk;have H:(2+m)*P<=3*8192:=Nat.mul_le_mul dk K;have bA:(2+(m:Int))*(P:Int)=(((2+m)*P:Nat):Int):=by rw [Int.natCast_mul];rfl
  obtain ⟨M,hM⟩:=dt ((2+m)*P);rw [hM] at H bA HX;clear h4 hq hm hP he hM;go_enter func166,ntmps166;go_wp2_with fail;refine Calls.mono (HP.u e P _ dk c.u) ?_;rintro e' w1 ⟨rfl,rfl⟩;exact pR
end Go.Proofs.YtgginbpmebgkcaaGreatDoor
