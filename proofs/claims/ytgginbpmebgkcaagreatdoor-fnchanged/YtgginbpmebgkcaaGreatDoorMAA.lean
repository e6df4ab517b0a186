
namespace Go.Proofs.YtgginbpmebgkcaaGreatDoor
def dm(p:Prop):Prop:=p
theorem dm.u{p:Prop}(h:dm p):p:=h
theorem dm.out{p:Prop}(h:dm p):p:=h
theorem dt{A:Type}(a:A):∃x,a=x:=⟨_,rfl⟩
theorem dI{A B:Type}(a:A×B):∃x y,a=(x,y):=⟨_,_,rfl⟩
theorem dH{A B C:Type}(a:(A×B)×C):∃x y z,a=((x,y),z):=⟨_,_,_,rfl⟩
theorem se{P:Prop}(h:P:=by
 rw [if_pos Q] at a;obtain ⟨rfl,rfl⟩:=a;have E:Qn zs c=.inl {gAdv zs c 1 0 with mm:=c.mm+1}:=by
  exact sf
 refine QaS hF hz hzl hM hb E (by show (0:Nat)<=9;omega) hb (f.next O _ _ b ((f.mb.far 12 _ dk).far 10 _ dk) ?_ (fun e=>by have:(0:Nat)=6:=e;omega) ((Ql _ _ dn).trans (Ql _ _ dn)) ((Ql _ _ dn).trans (Ql _ _ dn)) ((Ql _ _ dn).trans (Ql _ _ dn)) ((Ql _ _ dn).trans (Ql _ _ dn)) rfl rfl rfl rfl ?_ ?_) (hM.grb hF O) rfl
 ·exact sg
 ·show c.ic.lc.i<=c.ic.lc.i+8
  omega
 ·show c.ph<=0
  omega):P:=h
theorem gO{P:Prop}(h:P:=by
 obtain ⟨_,hx⟩:=b6;rcases hx with ⟨rfl,_⟩|⟨g,G,M,rfl,hb,_⟩
 ·exact .inl rfl
 ·refine .inr ?_
  simp [Value.ownBlock];omega):P:=h
theorem lC{P:Prop}(h:P:=by exact QaV hF hM hb E f O b (Ql _ _ dn) (Ql _ _ dn)):P:=h
theorem nY{P:Prop}(h:P:=by
 refine ⟨B,u,b1,b2,Z,Nat.le_trans H O.size,(I 26 dk).trans b5,?_,b7,?_⟩
 ·refine b6.kept O ?_
  exact gO
 ·exact nJ):P:=h
theorem pn{P:Prop}(h:P:=by exact mv):P:=h
theorem jy{P:Prop}(h:P:=by refine ⟨O.os,O.tape,O.output,O.size,?_,(fun o ho=>I o dk),(fun v k J h2=>.inr ⟨v,(I 26 dk)▸J,h2⟩)⟩;intro j hj J _ _;exact O.block j hj (by simpa using J)):P:=h
theorem lB{P:Prop}(h:P:=by
 have E:Qn zs c=.inr (2,Qy c):=by
  unfold Qn;rw [if_pos h0,if_neg M]
 refine Calls.mono (QfF f.hd M) ?_;rintro e W' ⟨⟨v,rfl⟩,b,O⟩;exact QaV hF hM hb E f O b rfl rfl):P:=h
theorem rG{P:Prop}(h:P:=by
 refine ⟨fun k hk=>?_,fun k=>iH⟩;unfold VE;by_cases e:k=j
 ·subst e
  rw [if_pos rfl];exact World.cell?_setCell_same _ _ _ (h.c k hk)
 ·rw [if_neg e,World.cell?_setCell_other _ _ _ _ (by first|(simp;done)|(simp;omega)|(intro h;simp at h;omega))]
  exact h.c k hk):P:=h
theorem ss{P:Prop}(h:P:=by unfold Qr;have J:=Qaj zs zs.length;have h2:=Qa0 256;rw [List.length_append];omega):P:=h
theorem sk{P:Prop}(h:P:=by
 obtain ⟨J,h2,h3⟩:=j.1 ad rfl;refine ⟨ad.block,⟨(fun ad' e=>dU),?_,?_,?_,dk,h3⟩⟩
 ·rcases J with h|h
  ·intro e;exact b.u.1 (e▸h)
  ·omega
 ·rcases J with h|h
  ·intro e;exact b.u.2.1 (e▸h)
  ·omega
 ·rcases J with h|h
  ·intro e;exact b.u.2.2 (e▸h)
  ·omega):P:=h
theorem od{P:Prop}(h:P:=by
 rw [if_pos O] at d;rcases d with ⟨c',e,_⟩|e
 ·cases e
 ·injection e with e;injection e with e1 e2
  refine ⟨fun _=>?_,fun h=>?_⟩
  ·unfold VJ
   rw [if_pos ⟨rfl,decide_eq_true O⟩];exact ⟨e1,dk⟩
  ·unfold VJ at h
   rw [if_pos ⟨rfl,decide_eq_true O⟩] at h;cases h):P:=h
theorem jM{P:Prop}(h:P:=by have h:=VI (w.alloc (.cells #[.slice ao Z cap,.int .i64 (i:Nat),.int .i64 0] 85)) (.slice none 0 0) 0 0 85;exact mx):P:=h
theorem fV{P:Prop}(h:P:=by show _=_;first|exact ht.symm|(rw [<-ht];rfl)):P:=h
theorem m9{P:Prop}(h:P:=by refine ⟨fun i hi=>?_,fun i=>dF⟩;have h:i=0\/i=1\/i=2\/i=3\/i=4\/i=5\/i=6\/i=7\/i=8\/i=9\/i=10\/i=11\/i=12\/i=13\/i=14\/i=15:=dk;rcases h with rfl|rfl|rfl|rfl|rfl|rfl|rfl|rfl|rfl|rfl|rfl|rfl|rfl|rfl|rfl|rfl<;>simp [go_sem]):P:=h
theorem oe{P:Prop}(h:P:=by
 rw [if_neg hb] at d ⊢;rcases d with ⟨c',e,_⟩|e
 ·cases e
 ·injection e with e;injection e with e1 e2
  have s:∀p,VJ (r.1,2) p=(r.1,2):=fun p=>VH (show (2:Int)≠0 by decide)
  dsimp only;rw [s];exact ⟨fun _=>⟨e1,dk⟩,fun h=>ep⟩):P:=h
theorem sh{P:Prop}(h:P:=by have J:=hb1.size;refine ⟨d.os.trans f.gr.os.symm,d.tape.trans f.gr.tape.symm,d.output.trans f.gr.output.symm,dk,fun k hk=>?_⟩;have:=hF.bp;have:=hF.bz;rw [d.block k dk dk dk,f.gr.block k dk dk dk]):P:=h
theorem nh{P:Prop}(h:P:=by have e:=hg.block g h.lt hne;exact ⟨Nat.lt_of_lt_of_le h.lt hg.size,fun i hi=>(World.cell?_of_block (w:=w) e).trans (h.at0 i hi),fun i hi=>(World.cell?_of_block (w:=w) e).trans (h.at1 i hi),fun o=>(World.frozen?_of_block (w:=w) e).trans (h.free o)⟩):P:=h
theorem oC{P:Prop}(h:P:=by
 refine ⟨k.os.trans h.os,k.tape.trans h.tape,k.output.trans h.output,Nat.le_trans h.size k.size,fun i hi hne=>?_⟩;rw [k.block i (Nat.lt_of_lt_of_le hi h.size) ?_,h.block i hi hne];intro e;rcases hr i e.symm with J|J
 ·exact hne J.symm
 ·omega):P:=h
theorem qM{P:Prop}(h:P:=by exact ⟨(World.cell?_of_block (w:=w) e).trans h.c0,(World.cell?_of_block (w:=w) e).trans h.c1,(World.cell?_of_block (w:=w) e).trans h.c2,(World.cell?_of_block (w:=w) e).trans h.c3,fun o=>(World.frozen?_of_block (w:=w) e).trans (h.f o)⟩):P:=h
theorem fL{P:Prop}(h:P:=by obtain ⟨b,ho⟩:=h.c25;exact ⟨b,(I 25 dk).trans ho⟩):P:=h
theorem qE{P:Prop}(h:P:=by
 show _=_;have J:((2:Int)^K)=(S:Int):=by rw [<-hS];exact (Int.natCast_pow 2 K).symm
 have h2:S<=32768:=by rw [<-hS];exact Nat.le_trans (Nat.pow_le_pow_right dn (show K<=15 by omega)) dn
 rw [J];unfold wrap64;omega):P:=h
theorem fK{P:Prop}(h:P:=by obtain ⟨b,ho⟩:=h.c1;exact ⟨b,(I 1 dk).trans ho⟩):P:=h
theorem fQ{P:Prop}(h:P:=by intro j hj;rw [I j (by unfold Q8 at hj;omega)];exact h.num j hj):P:=h
theorem sD{P:Prop}(h:P:=by unfold Qn;dsimp only;rw [if_neg dk,if_neg dk,if_neg dk,if_neg dk,if_neg dk,if_neg dk,if_neg dk,if_neg dk,if_neg dk,if_neg dk,if_pos h10,if_pos J,E]):P:=h
theorem fP{P:Prop}(h:P:=by exact fun k hk=>O.cell (h.g1 k hk) fJ):P:=h
theorem d6{P:Prop}(h:P:=by exact ⟨rfl,rfl⟩):P:=h
theorem iY{P:Prop}(h:P:=by simp only [List.length_append,QN,zh2,List.length_cons,List.length_nil];omega):P:=h
theorem tj{P:Prop}(h:P:=by have h:=(VI (w.alloc (.cells #[.slice ao Z cap,.int .i64 (i:Nat),.int .i64 cl] 85)) (.slice none 0 0) 0 0 85).below ((Below.refl _ _).alloc (Nat.le_refl _) (.cells #[] 5));exact mx):P:=h
theorem oD{P:Prop}(h:P:=by
 refine ⟨h.1,?_⟩;rcases h.2 with h2|⟨g,c,M,h3,h4,U,h6⟩
 ·exact .inl h2
 ·refine .inr ⟨g,c,M,h3,h4,?_,h6⟩
  rw [hb g ?_]
  ·exact U
  ·simp only [Value.slice.injEq] at h3
   rw [h3.1];rfl):P:=h
theorem oj{P:Prop}(h:P:=by
 rcases h.2 with ⟨_,J⟩|⟨g',K,M,J,h2,h3,h4,_⟩
 ·omega
 ·simp only [Value.slice.injEq,true_and] at J
  obtain ⟨rfl,rfl⟩:=J;exact ⟨g',rfl,h2,(Array.getElem?_eq_some_iff.1 h3).1,h4⟩):P:=h
theorem oi{P:Prop}(h:P:=by
 intro g e;rcases h.2 with ⟨J,_⟩|⟨g',K,M,J,h2,_⟩
 ·exact km
 ·simp only [Value.slice.injEq] at J
  rw [J.1] at e;simp [Qt] at e;omega):P:=h
theorem fB{P:Prop}(h:P:=by show c.ic.lc.i<=c.ic.lc.i+8;omega):P:=h
theorem jN{P:Prop}(h:P:=by exact mx):P:=h
theorem ox{P:Prop}(h:P:=by refine Qiv (by simp [QC];omega) ?_;intro i hi;simp only [QC,List.length_append] at hi;rw [Qal,Qal,Qbo,Qbo,Qal];simp only [QC,List.length_append];split<;>split<;>first|omega|(congr 1;omega)):P:=h
theorem my{P:Prop}(h:P:=by obtain ⟨b,off,rfl,_⟩:=h k hk;refine ⟨b,off,rfl,fun i hi=>?_⟩;obtain ⟨c,a,e,I⟩:=h i hi;simp only [Option.some.injEq,Addr.mk.injEq,and_true] at e;obtain ⟨rfl,rfl⟩:=e;exact I):P:=h
theorem oR{P:Prop}(h:P:=by
 rcases Q with rfl|rfl|rfl
 ·exact ⟨3,.inr rfl,rfl,Calls.mono aq.u (fun e w' h=>h.2.2 rfl)⟩
 ·exact absurd rfl au
 ·exact ⟨2,.inl rfl,rfl,Calls.mono aq.u (fun e w' h=>h.2.1 rfl)⟩):P:=h
theorem r4{P:Prop}(h:P:=by
 rcases hO.2 with ⟨U,_⟩|⟨g',K,M,U,h6,_⟩
 ·exact jY
 ·simp only [Value.slice.injEq] at U
  rw [U.1] at e;simp [Qt] at e;omega):P:=h
theorem nr{P:Prop}(h:P:=by
 rcases ho.2 with ⟨y,_⟩|⟨g',K,M,y,hb,_⟩
 ·simp at y
 ·simp only [Value.slice.injEq,Option.some.injEq,Addr.mk.injEq,and_true,true_and] at y
  obtain ⟨rfl,rfl⟩:=y;exact hb):P:=h
theorem n7{P:Prop}(h:P:=by
 obtain ⟨n,M⟩:=h;cases n with
 | zero=>exact M.elim
 | succ n=>
  rcases M with h|h|⟨J,c',h2,h3⟩
  ·exact .inl h
  ·exact .inr (.inl h)
  ·exact .inr (.inr ⟨J,c',h2,n,h3⟩)):P:=h
theorem pE{P:Prop}(h:P:=by
 intro j u h;have hj:j=0:=by
  rcases Nat.eq_zero_or_pos j with y|y
  ·exact y
  ·rw [List.getElem?_eq_none du] at h;cases h
 subst hj;simp at h;subst h;simp [go_sem]):P:=h
theorem jv{P:Prop}(h:P:=by simp only [World.alloc,Array.getElem?_push,Array.size_push];simp):P:=h
theorem fM{P:Prop}(h:P:=by intro j;rw [World.frozen?_setCell];exact h.free j):P:=h
theorem tn{P:Prop}(h:P:=by rw [<-s];exact World.ownsRow.kept (World.ownsRow_lit w #[] 0 (Nat.le_refl _) dy rfl) (World.grownBy_alloc _ _ none) (.inr gH)):P:=h
theorem sH{P:Prop}(h:P:=by
 refine O ?_;have h3:=A.p3;unfold VZ at J;rw [if_neg gc] at J;split at J
 ·cases J
 ·split at J
  ·cases J
  ·split at J
   ·split at J<;>cases J
   ·omega):P:=h
theorem fw{P:Prop}(h:P:=by show _=_;rw [<-M];unfold zhd;simp;omega):P:=h
theorem tp{P:Prop}(h:P:=by
 rw [hk];rcases Nat.le_total (s-p) D.length with h|h
 ·rw [Nat.min_eq_left h]
 ·rw [Nat.min_eq_right h,List.drop_eq_nil_of_le (Nat.le_refl _),List.drop_eq_nil_of_le h]):P:=h
theorem oz{P:Prop}(h:P:=by
 intro ad u;cases ao with
 | none=>cases u
 | some x=>
  simp only [Option.map_some,Option.some.injEq] at u;subst u;have:=hb x rfl;unfold Addr.add;split<;>exact this):P:=h
theorem nj{P:Prop}(h:P:=by rw [World.cell?_setCell_other _ _ _ _ dB,World.cell?_setCell_other _ _ _ _ dB,h.at1 i hi];simp [e]):P:=h
theorem sE{P:Prop}(h:P:=by dsimp only;rw [decide_eq_true V,QfC,QaD (show ((4:Int))≠0 by decide)];dsimp only;unfold suP;rw [if_neg (fun x=>absurd (show (4:Int)=0 from x.1) dn)]):P:=h
theorem gv{P:Prop}(h:P:=by rw [List.take_succ_eq_append_getElem h];simp [List.getD,h]):P:=h
theorem o8{P:Prop}(h:P:=by
 unfold Vs at hs;repeat' (split at hs)
 all_goals first|(have:=Qhp hs;dsimp only at this;omega)|(cases hs;done)|(injection hs with hs;subst hs;dsimp only;omega)):P:=h
theorem mU{P:Prop}(h:P:=by have e:=hg.block p h.lt hne;exact ⟨fun i hi=>(World.cell?_of_block (w:=w) e).trans (h.at_ i hi),fun i=>(World.frozen?_of_block (w:=w) e).trans (h.free i)⟩):P:=h
theorem fN{P:Prop}(h:P:=by exact O.cell h.g0 fJ):P:=h
theorem eX{P:Prop}(h:P:=by show c.ic.lc.i<c.ic.lc.i+8;omega):P:=h
theorem qu{P:Prop}(h:P:=by rw [show ((2:Int)^r)=((2^r:Nat):Int) from (Int.natCast_pow 2 r).symm,<-Int.natCast_mul,hT];simp [IntKind.wrap,IntKind.bits,IntKind.signed];omega):P:=h
theorem lD{P:Prop}(h:P:=by exact QaV hF hM hb E f O b rfl rfl):P:=h
theorem pd{P:Prop}(h:P:=by obtain ⟨X,G,J,h2,h4⟩:=h.o30;exact ⟨X,G,(I 30 dk).trans J,h2.keep (fun k e=>hb k (h.at30 _ _ _ k J e).1 (h4 k e).2.2.1),h4⟩):P:=h
theorem kC{P:Prop}(h:P:=by subst hg;exact World.ownsRow_lit W #[] 0 hb dy rfl):P:=h
theorem nW{P:Prop}(h:P:=by intro i hi;rw [List.length_take] at hi;obtain ⟨b,o,e,I⟩:=h i dk;refine ⟨b,o,e,?_⟩;rw [I];simp [List.getD,(by omega:i<k)]):P:=h
theorem qJ{P:Prop}(h:P:=by
 split at hs
 ·rename_i c2 h2
  split at hs
  ·rename_i h3
   injection hs with hs;subst hs;exact ⟨h2,h3⟩
  ·cases hs
 ·cases hs):P:=h
theorem jS{P:Prop}(h:P:=by
 unfold wr;repeat' split
 all_goals omega):P:=h
theorem fd{P:Prop}(h:P:=by simp [Qt] at e;omega):P:=h
theorem gS{P:Prop}(h:P:=by intro y;dsimp only at y ⊢;rw [D _ _ _ y];omega):P:=h
theorem eU{P:Prop}(h:P:=by rw [List.map_append];exact R):P:=h
theorem qt{P:Prop}(h:P:=by rw [<-hT];have J:2^r<=2^7:=Nat.pow_le_pow_right dn dk;have h2:b*2^r<=1*2^r:=Nat.mul_le_mul_right _ aj;omega):P:=h
theorem pN{P:Prop}(h:P:=by exact (h.own.grown g1 (fun k e e2=>fW)).grown g2 (fun k e e2=>fW)):P:=h
theorem mD{P:Prop}(h:P:=by rw [World.cell?_setCell_other _ _ _ _ dr,World.cell?_setCell_other _ _ _ _ dr,World.cell?_setCell_same _ _ _ C]):P:=h
theorem n8{P:Prop}(h:P:=by
 unfold addS at hs;repeat' (split at hs)
 all_goals first|(cases hs;done)|(injection hs with e;injection e with e1 e2;omega)):P:=h
theorem jV{P:Prop}(h:P:=by obtain ⟨b,J⟩:=P.c34.1;exact ⟨b,(I 34 dk).trans J⟩):P:=h
theorem jw{P:Prop}(h:P:=by obtain ⟨n,M⟩:=h2;exact ⟨n+1,.inr (.inr ⟨h,c',hs,M⟩)⟩):P:=h
theorem mB{P:Prop}(h:P:=by
 refine World.ownsRow.kept h hg ?_;cases ao with
 | none=>exact .inl rfl
 | some ad=>exact .inr (fun he=>hne _ he.symm rfl)):P:=h
theorem oY{P:Prop}(h:P:=by
 unfold QS at hs;repeat' (split at hs)
 all_goals first|(cases hs;done)|(injection hs with hs;subst hs;dsimp only;omega)):P:=h
theorem o7{P:Prop}(h:P:=by
 unfold QX at hs;repeat' (split at hs)
 all_goals first|(cases hs;done)|(injection hs with hs;subst hs;dsimp only;omega)):P:=h
theorem o5{P:Prop}(h:P:=by
 unfold QE at hs;repeat' (split at hs)
 all_goals first|(cases hs;done)|(injection hs with hs;subst hs;dsimp only;omega)):P:=h
theorem oZ{P:Prop}(h:P:=by
 unfold QF at hs;repeat' (split at hs)
 all_goals first|(cases hs;done)|(injection hs with hs;subst hs;dsimp only;omega)):P:=h
theorem mz{P:Prop}(h:P:=by intro i hi;obtain ⟨b,U,rfl,I⟩:=h i hi;exact ⟨b,U,rfl,by rw [hb.cell (World.block_lt_of_cell? w _ I)];exact I⟩):P:=h
theorem nB{P:Prop}(h:P:=by unfold Hit;rw [hY,hX];exact ⟨fun h=>h.2,fun h=>⟨hc,h⟩⟩):P:=h
theorem pO{P:Prop}(h:P:=by exact Qp (Qp h.gr g1 (fun g e=>ej)) g2 (fun g e=>ej)):P:=h
theorem oy{P:Prop}(h:P:=by
 by_cases an:c<s
 ·have:=h6 an
  exact jS
 ·exact jS):P:=h
theorem ti{P:Prop}(h:P:=by unfold Qn;rw [if_pos h0,if_pos M,if_neg (by rw [hm];exact Q)]):P:=h
theorem jH{P:Prop}(h:P:=by dsimp only;rw [upd,if_neg dn];exact h.lit dk):P:=h
theorem sv{P:Prop}(h:P:=by unfold Qs;rw [if_neg ek,if_neg en,if_pos rfl,if_pos a,hy]):P:=h
theorem sb{P:Prop}(h:P:=by obtain ⟨g,_,_,_,_,_,Y⟩:=hP;exact ah.grown Y (Nat.le_trans b ah.size) (fun k e=>iQ)):P:=h
theorem sw{P:Prop}(h:P:=by unfold Qs;rw [if_neg ek,if_neg en,if_pos rfl,if_pos J,E]):P:=h
theorem sZ{P:Prop}(h:P:=by rintro e w' ⟨⟨x,rfl,J,h2⟩,h3⟩;exact ⟨⟨x.toNat,by rw [Int.toNat_of_nonneg J],dk⟩,h3⟩):P:=h
theorem mH{P:Prop}(h:P:=by have:=Nat.two_pow_add_eq_or_of_lt (i:=8*k) (b:=y) hy X;rw [Nat.mul_comm,Nat.or_comm,<-this,Nat.add_comm]):P:=h
theorem lL{P:Prop}(h:P:=by rintro e W' ⟨rfl,h,f⟩;exact QfP hF hM hb E X h rfl f):P:=h
theorem jJ{P:Prop}(h:P:=by exact In2.bad (by show (3:Int)≠0;decide) e1 dk):P:=h
theorem fF{P:Prop}(h:P:=by simp [World.frozen?_setCell,f1]):P:=h
theorem fG{P:Prop}(h:P:=by simp [World.frozen?_setCell,f2]):P:=h
theorem fE{P:Prop}(h:P:=by simp [World.frozen?_setCell,f0]):P:=h
theorem mY{P:Prop}(h:P:=by
 have e':¬l=i:=fun h=>e h.symm
 rw [World.cell?_setCell_other _ _ _ _ dr,h.at_ i hi];simp [e]):P:=h
theorem ts{P:Prop}(h:P:=by
 intro e;rcases aa with h|h
 ·exact an<|(Option.some.inj h).trans e
 ·first|omega|(simp at h;omega)):P:=h
theorem fI{P:Prop}(h:P:=by exact ⟨rfl,rfl,rfl⟩):P:=h
theorem fo{P:Prop}(h:P:=by rw [hT] at this;exact this):P:=h
theorem og{P:Prop}(h:P:=by injection e with e;injection e with e1 e2;exact ⟨fun _=>⟨e1,dk⟩,fun h=>ep⟩):P:=h
theorem sI{P:Prop}(h:P:=by obtain ⟨k1,u⟩:=x;rw [VA h] at E;injection E with E;have:=Qff h;rw [E] at this;exact this rfl):P:=h
theorem eR{P:Prop}(h:P:=by split at hs<;>cases hs):P:=h
theorem nu{P:Prop}(h:P:=by rw [World.cell?_setCell_other _ _ _ _ dB];exact h.at1 i hi):P:=h
theorem sj{P:Prop}(h:P:=by rintro e W' ⟨rfl,b,O⟩;exact ⟨⟨_,_,rfl⟩,QaV hF hM hb E f (I.trans O) b rfl rfl⟩):P:=h
theorem fm{P:Prop}(h:P:=by dsimp only at this;omega):P:=h
theorem rk{P:Prop}(h:P:=by
 intro j hj;rcases Nat.lt_succ_iff_lt_or_eq.1 hj with h|rfl
 ·exact HE.u j h
 ·exact he):P:=h
theorem mG{P:Prop}(h:P:=by exact Qj (Qj (Qf w ⟨p,0,none⟩ _) (Qf _ ⟨p,1,none⟩ _)) (Qf _ ⟨p,2,none⟩ _)):P:=h
theorem ez{P:Prop}(h:P:=by exact Nat.le_refl _):P:=h
theorem tu{P:Prop}(h:P:=by have h:=QkB aQ.u a3.u.1;rw [Qhv] at h;exact h):P:=h
theorem pe{P:Prop}(h:P:=by intro v k e1 e2;rw [I 26 dk] at e1;rw [I 30 dk];exact A v k e1 e2):P:=h
theorem oG{P:Prop}(h:P:=by intro u k e1 e2;rw [I 26 dk] at e1;rw [I 30 dk];exact A u k e1 e2):P:=h
theorem nD{P:Prop}(h:P:=by rw [show X=9+(X-9) from dk,Nat.pow_add,show 9+(X-9)-9=X-9 from dk]):P:=h
theorem qK{P:Prop}(h:P:=by
 by_cases a:c.ic.st<=15
 ·rw [if_pos a,if_pos a]
 ·rw [if_neg a,if_neg a]
  rfl):P:=h
theorem jI{P:Prop}(h:P:=by exact ⟨fun _=>h.no H,fun h=>absurd h H⟩):P:=h
theorem o9{P:Prop}(h:P:=by exact ⟨u,lo,hi,J,h2,fun k k1 k2=>⟨.inl (h3 k k1 k2).1,(h3 k k1 k2).2⟩⟩):P:=h
theorem mV{P:Prop}(h:P:=by simp only [Option.some.injEq] at V;subst V;rw [Nat.zero_add];exact h.at_ j hj):P:=h
theorem iz{P:Prop}(h:P:=by rw [hT,av.u] at this;exact this):P:=h
theorem tm{P:Prop}(h:P:=by rw [<-E];exact ((Below.refl _ _).alloc (Nat.le_refl _) _).alloc dr _):P:=h
theorem qq{P:Prop}(h:P:=by exact World.cell?_setCell_other _ _ _ _ dB):P:=h
theorem r5{P:Prop}(h:P:=by intro u hu;simp at hu;rcases hu with rfl|rfl|rfl|rfl|rfl|rfl|rfl|rfl<;>rfl):P:=h
theorem sA{P:Prop}(h:P:=by rw [if_neg (fun x=>by rw [h2] at x;exact absurd x.1 dn)];exact h2):P:=h
theorem pB{P:Prop}(h:P:=by unfold hk at h;rw [hb,if_neg dn] at h;exact absurd h dn):P:=h
theorem qj{P:Prop}(h:P:=by show 0<=bits .and .i64 _ 255/\bits .and .i64 _ 255<=255;rw [Qfw];omega):P:=h
theorem om{P:Prop}(h:P:=by have:=World.ownsRow.cellAt h k dk;rw [this];simp [List.getD,hk]):P:=h
theorem gR{P:Prop}(h:P:=by rcases Qbj E with h|h<;>omega):P:=h
theorem kx{P:Prop}(h:P:=by
 unfold nx3;repeat' split
 all_goals simp):P:=h
theorem sc{P:Prop}(h:P:=by rintro e W' ⟨rfl,f⟩;exact .no (VA E) (hM.below hF f) (f.mono b)):P:=h
theorem su{P:Prop}(h:P:=by
 rcases List.mem_append.1 hv with h|h
 ·exact hx v h
 ·exact hy v h):P:=h
theorem qP{P:Prop}(h:P:=by obtain ⟨J,h2⟩:=a' h;rw [if_pos J] at h2;exact ⟨J,dk⟩):P:=h
theorem mW{P:Prop}(h:P:=by intro j hj;rw [Nat.zero_add,h.at_ j hj];exact ⟨rfl,h.free j⟩):P:=h
theorem tq{P:Prop}(h:P:=by
 rcases hf g e with J|J
 ·exact h.far g J
 ·exact .inr dk):P:=h
theorem oh{P:Prop}(h:P:=by unfold rpt;rw [if_neg dn,if_neg dn,if_pos rfl]):P:=h
theorem nI{P:Prop}(h:P:=by exact fun k hk=>hg.cell (h.g1 k hk) fJ):P:=h
theorem eZ{P:Prop}(h:P:=by exact h.off H _ _):P:=h
theorem nZ{P:Prop}(h:P:=by dsimp only;rw [upd,if_neg dn];exact h.dist dk):P:=h
theorem ov{P:Prop}(h:P:=by have J:=b.u;rw [show n-k=(n-(k+1))+1 by omega] at J;exact J):P:=h
theorem mA{P:Prop}(h:P:=by rw [Nat.zero_add,h.cellAt i dk];simp [List.getD,hi]):P:=h
theorem oF{P:Prop}(h:P:=by intro v k e1 e2;rw [I 26] at e1;rw [I 30];exact A v k e1 e2):P:=h
theorem qk{P:Prop}(h:P:=by
 refine Q1.of fun i hi=>?_
 simp at hi;subst hi;simp [go_sem]):P:=h
theorem lA{P:Prop}(h:P:=by
 rw [if_neg Q] at a;obtain ⟨⟨v,rfl⟩,rfl⟩:=a;have E:Qn zs c=.inr (3,Qy c):=by
  exact ti
 exact lC):P:=h
theorem nJ{P:Prop}(h:P:=by intro E;obtain ⟨t,S,m,L,w0,J,h2,h3,h4,U,h6⟩:=b8 E;refine ⟨t,S,m,L,w0,(I 25 dk).trans J,h2,h3,h4,U,fun j k1 k2=>?_⟩;rw [<-h6 j k1 k2];exact O.block j dk du):P:=h
theorem mi{P:Prop}(h:P:=by
 intro e;rcases aa with h|h
 ·exact a<|(Option.some.inj h).trans e
 ·first|omega|(simp at h;omega)):P:=h
theorem gk{P:Prop}(h:P:=by rintro e W' ⟨⟨v,rfl⟩,b,O⟩;exact lC):P:=h
theorem sM{P:Prop}(h:P:=by
 have k1:wi mt 4294967295=false:=decide_eq_false dk;have HX:dm (true=!b1):=by show _=_;rw [<-o.u];simp [k0,k1]
 clear o;exact fC):P:=h
theorem sO{P:Prop}(h:P:=by have k3:wi os 255=false:=decide_eq_false dk;have HX:dm (true=!b1):=sP;clear o;exact fC):P:=h
theorem sN{P:Prop}(h:P:=by
 have k2:wi xf 255=false:=decide_eq_false dk;have HX:dm (true=!b1):=by show _=_;rw [<-o.u];simp [k0,k1,k2]
 clear o;exact fC):P:=h
theorem sL{P:Prop}(h:P:=by
 have k0:wi f 31=false:=decide_eq_false dk;have HX:dm (true=!b1):=by show _=_;rw [<-o.u];simp [k0]
 clear o;exact fC):P:=h
theorem jf{P:Prop}(h:P:=by rw [List.map_append,List.length_append];exact R):P:=h
theorem mv{P:Prop}(h:P:=by
 intro e;rcases b.u _ e.symm with h|h
 ·have:=a.u _ h;omega
 ·omega):P:=h
theorem km{P:Prop}(h:P:=by simp only [Value.slice.injEq] at J;rw [J.1] at e;cases e):P:=h
theorem jY{P:Prop}(h:P:=by simp only [Value.slice.injEq] at U;rw [U.1] at e;cases e):P:=h
theorem pt{P:Prop}(h:P:=by
 intro g e;rcases s with h|h
 ·rw [h] at e;exact b.u g e
 ·rw [h] at e
  simp at e;right;omega):P:=h
theorem sf{P:Prop}(h:P:=by unfold Qn;rw [if_pos h0,if_pos M,if_pos (by rw [hm];exact Q),hm];rfl):P:=h
theorem rm{P:Prop}(h:P:=by rw [<-hP,QaB];exact ss):P:=h
theorem sg{P:Prop}(h:P:=by show VE _ 10 _ 10=.int .i64 ((c.mm+1:Nat):Int);rw [Qaa,hm];rfl):P:=h
theorem mx{P:Prop}(h:P:=by rw [World.size_alloc] at h;exact h):P:=h
theorem tc{P:Prop}(h:P:=by have HX:dm (false=!b2):=te;clear d;exact ji):P:=h
theorem ed{P Q:Prop}(h:Q)(f:Q->P:=by obtain ⟨E,t,r,H,s,I,D,A,J,o,G,L,cc,m2,m3,m4,m5,m6,m7,m8,g⟩:=id hm;have k2:=(h.gz.c 2 dn).trans (congrArg some m2);have k3:=(h.gz.c 3 dn).trans (congrArg some m3);have k4:=(h.gz.c 4 dn).trans (congrArg some m4);have k5:=(h.gz.c 5 dn).trans (congrArg some m5);have k6:=(h.gz.c 6 dn).trans (congrArg some m6);have T:=(h.gz.c 7 dn).trans (congrArg some m7);have a:=(h.gz.c 8 dn).trans (congrArg some m8);have k9:=(h.gz.c 9 dn).trans (congrArg some g);intro Kk;revert E t r H s I D A J o G L cc m2 m3 m4 m5 m6 m7 m8 g k2 k3 k4 k5 k6 T a k9;exact Kk):P:=f h
theorem qT{P Q:Prop}(h:Q)(f:Q->P:=by
 have B1:dm (L5m (((w.alloc (.cells #[.slice ao Z cap,.int .i64 (i:Nat),.int .i64 cl] 85)).alloc (.cells #[.slice none 0 0,.int .i64 0,.int .i64 0] 85)).alloc (.cells #[] 5)) w.heap.size (.slice ao Z cap) (i:Nat) cl):=((VI w (.slice ao Z cap) (i:Nat) cl 85).below ((Below.refl _ _).alloc (Nat.le_refl _) _)).below ((Below.refl _ _).alloc (Nat.le_refl _) _);have R1:dm (L5m (((w.alloc (.cells #[.slice ao Z cap,.int .i64 (i:Nat),.int .i64 cl] 85)).alloc (.cells #[.slice none 0 0,.int .i64 0,.int .i64 0] 85)).alloc (.cells #[] 5)) (w.heap.size+1) (.slice none 0 0) 0 0):=by
  exact tj
 have L1:dm (Below w.heap.size w (((w.alloc (.cells #[.slice ao Z cap,.int .i64 (i:Nat),.int .i64 cl] 85)).alloc (.cells #[.slice none 0 0,.int .i64 0,.int .i64 0] 85)).alloc (.cells #[] 5))):=(((Below.refl _ _).alloc (Nat.le_refl _) _).alloc dr _).alloc du _;have O1:dm (Qi 5 (w.heap.size+2) (((w.alloc (.cells #[.slice ao Z cap,.int .i64 (i:Nat),.int .i64 cl] 85)).alloc (.cells #[.slice none 0 0,.int .i64 0,.int .i64 0] 85)).alloc (.cells #[] 5)) (some ⟨w.heap.size+2,0,none⟩) 0 []):=QkO w _ _ _;have S1:dm (w.heap.size+2<=(((w.alloc (.cells #[.slice ao Z cap,.int .i64 (i:Nat),.int .i64 cl] 85)).alloc (.cells #[.slice none 0 0,.int .i64 0,.int .i64 0] 85)).alloc (.cells #[] 5)).heap.size):=by show _<=_;simp
 intro Kk;revert B1 R1 L1 O1 S1;exact Kk):P:=f h
theorem es{P Q:Prop}(h:Q)(f:Q->P:=by
 have BW:=Qe E.u.1;have L:=Qe<|R'.u.grown E.u.2 dr
 have z:=Qe<|K.u.grown E.u.2 (by have:=M.u.lt;omega) dz
 intro Kk;revert BW L z;exact Kk):P:=f h
theorem nk{P Q:Prop}(h:Q)(f:Q->P:=by
 have hN:=Qa5.new w1 156;have D:(Tryz.prog.info? 156).map (·.size)=some L.length:=by rw [ai];exact Tryz.size_cnts
 have n:(w1.alloc (.cells #[.int .i64 0,.int .i64 0,.int .i64 0,.int .i64 0,.int .i64 0,.int .i64 0,.int .i64 0,.int .i64 0,.int .i64 0,.int .i64 0,.int .i64 0,.int .i64 0,.int .i64 0,.int .i64 0,.int .i64 0,.int .i64 0] 156)).there w1.heap.size 0 L.length:=by rw [ai];exact hN.there
 have o:=World.rangeAt_setCells_same _ w1.heap.size 0 L n;have ah:Below w.heap.size w ((w1.alloc (.cells #[.int .i64 0,.int .i64 0,.int .i64 0,.int .i64 0,.int .i64 0,.int .i64 0,.int .i64 0,.int .i64 0,.int .i64 0,.int .i64 0,.int .i64 0,.int .i64 0,.int .i64 0,.int .i64 0,.int .i64 0,.int .i64 0] 156)).setCells w1.heap.size 0 L):=(aj.alloc aj.size _).grown (Q5 w1.heap.size L 0 _) (aj.alloc aj.size _).size (by intro q e;simp at e;have:=aj.size;omega);have a1:=Qg<|all_oneCell_toArray m
 have d:=Qg ah;have au:=Qg ai;have u:=Qg P;intro Kk;revert hN D n o ah a1 d au u;exact Kk):P:=f h
theorem fA{P Q:Prop}(h:Q)(f:Q->P:=by
 have HN:=Qe<|Qb9 h 1 dn dn dk
 obtain ⟨X,hX⟩:=dt (crcU hs ((zs.drop (i/8)).take 1));obtain ⟨F,Y⟩:=dt (field (bnum zs) i (8*1));have d:field (bnum zs) i 8=F:=Y;intro Kk;revert HN X hX F Y d;exact Kk):P:=f h
theorem dA{P Q:Prop}(h:Q)(f:Q->P:=by have ag:=C 0;have G:=C 1;have ae:=C 2;intro Kk;revert ag G ae;exact Kk):P:=f h
theorem eW{P Q:Prop}(h:Q)(f:Q->P:=by
 have K:=Qe<|Qi.below y.u o
 have l:=Qe<|i.u.trans (o.mono r)
 have k:=Qe<|Qi.mine j
 have f:dm (w.heap.size<=S.heap.size):=l.u.size;intro Kk;revert K l k f;exact Kk):P:=f h
theorem js{P Q:Prop}(h:Q)(f:Q->P:=by
 have D:(Tryz.prog.info? 156).map (·.size)=some L.length:=by rw [ai];exact Tryz.size_cnts
 have c:wr.there w.heap.size 0 L.length:=by rw [ai];exact n
 have g:=Qg<|World.rangeAt_setCells_same wr w.heap.size 0 L c
 have E:dm (Below w.heap.size w (wr.setCells w.heap.size 0 L)):=a.grown (Q5 w.heap.size L 0 wr) a.size ef;intro Kk;revert D c g E;exact Kk):P:=f h
theorem iq{P Q:Prop}(h:Q)(f:Q->P:=by have ah:=Qg (fun A t=>World.ownsRow.kept HO.u (World.grownBy_alloc wr (.cells A t) none) (.inr gH));refine kL ?_;intro m;intro Kk;revert ah m;exact Kk):P:=f h
theorem nA{P Q:Prop}(h:Q)(f:Q->P:=by
 obtain ⟨w2,E⟩:=dt ((w.alloc (.cells #[.int .i64 X,.int .u64 Y] 118)).alloc (.cells #[.int .i8 X,.int .i16 s] 273));have ah:Below w.heap.size w w2:=by
  exact tm
 have aa:=hT.short.lt;have D:IntKind.i8.wrap (X:Int)=(X:Int):=by simp [IntKind.wrap,IntKind.bits,IntKind.signed];omega
 have p0:w2.cell? ⟨w.heap.size,0,none⟩=some (.int .i64 X):=jj;have p1:w2.cell? ⟨w.heap.size,1,none⟩=some (.int .u64 Y):=jj;have Z:w2.cell? ⟨w.heap.size+1,0,none⟩=some (.int .i8 X):=jj;have A:w2.cell? ⟨w.heap.size+1,1,none⟩=some (.int .i16 s):=jj;have HT:=Qg hT;intro Kk;revert w2 E ah aa D p0 p1 Z A HT;exact Kk):P:=f h
theorem dL{P Q:Prop}(h:Q)(f:Q->P:=by refine dG ?_;intro b0 b1 b2 C t0 t1 t2 t3 V u x2 t y0 F y2 y3 P l;intro Kk;revert l;revert P;revert y3;revert y2;revert F;revert y0;revert t;revert x2;revert u;revert V;revert t3;revert t2;revert t1;revert t0;revert C;revert b2;revert b1;revert b0;exact Kk):P:=f h
theorem iw{P Q:Prop}(h:Q)(f:Q->P:=by refine er ?_;intro aE aD aC aK aO aB aF;intro Kk;revert aE aD aC aK aO aB aF;exact Kk):P:=f h
theorem fS{P Q:Prop}(h:Q)(f:Q->P:=by
 refine fR ?_;intro hd;have a:=hM.below hd;have f:=Qe a;have j:=Qe<|(hd.mono (show B<=w.heap.size from by have:=hM.bs;omega))
 intro Kk;revert hd a f j;exact Kk):P:=f h
theorem qX{P Q:Prop}(h:Q)(f:Q->P:=by
 have hA:Below W3.heap.size W3 (W3.alloc (.cells #[.int .u8 (y:Int)] 5)):=(Below.refl _ _).alloc (Nat.le_refl _) _;have hx:∀k,k<w.heap.size+2->some k≠Qt a:=fun k h5 h6=>by have:=Qi.based K.u k h6.symm;omega
 have g:=Qe<|(E.u.1.below hA).grown Q (hx _ dk)
 have R5:=Qe<|(R3.u.below hA).grown Q (hx _ dk)
 have p:=Qe<|(D.u.trans (hA.mono D.u.size)).grown Q du (fun k e=>by have:=Qi.based K.u k e;omega)
 have Y:=Qe S;have r:dm (w.heap.size+2<=w5.heap.size):=Nat.le_trans s3 (Nat.le_trans hA.size Q.size);intro Kk;revert hA hx g R5 p Y r;exact Kk):P:=f h
theorem oQ{P Q:Prop}(h:Q)(f:Q->P:=by
 have HX:=Qe<|(x.u.setq 35 dk (.int .i64 (ba:Nat)) c.last c.stored ba c.extra c.len dr dr dr dr dr).setq 36 dk (.int .i64 (ex:Nat)) c.last c.stored ba ex c.len dr dr dr dr dr
 have HT:=Qe<|(o.u.trans (x.u.belq 35 (.int .i64 (ba:Nat)))).trans ((x.u.setq 35 dk (.int .i64 (ba:Nat)) c.last c.stored ba c.extra c.len dr dr dr dr dr).belq 36 (.int .i64 (ex:Nat)))
 intro Kk;revert HX HT;exact Kk):P:=f h
theorem jb{P Q:Prop}(h:Q)(f:Q->P:=by
 have l:=Qe<|i.u.trans (o.mono i.u.size)
 have F:=Qe<|d.u.below o
 have K:=Qe<|y.u.below o
 have k:=Qe<|Qi.mine j
 have f:dm (w.heap.size+1<=S.heap.size):=F.u.lt;have m:=Qe<|Qi.based K.u
 intro Kk;revert l F K k f m;exact Kk):P:=f h
theorem lq{P Q:Prop}(h:Q)(f:Q->P:=by have m:w2.cell? ⟨q,30,none⟩=some (.slice X c.u.length G):=l;have x:Qi 5 B w2 X G c.u:=R;have aa:q<w2.heap.size:=o.u.lt;have H:=Qe (fun W (hW:Below w2.heap.size w2 W)=>QbE q G st B X c.u W ((hW.cell (p:=⟨q,30,none⟩) aa).trans m) (x.below hW) ak.u);intro Kk;revert m x aa H;exact Kk):P:=f h
theorem iX{P Q:Prop}(h:Q)(f:Q->P:=by
 have g:=Qe<|y.u.grown E.u.2 y.u.size (fun k e=>dJ)
 have Y:=Qe<|(S.u.mono (Nat.le_succ _)).grown E.u.2 (fun k e e2=>by have:=V.u k e2;simp at e;omega)
 intro Kk;revert g Y;exact Kk):P:=f h
theorem pF{P Q:Prop}(h:Q)(f:Q->P:=by
 obtain ⟨i0,hi,af,ak,aq⟩:=info_parts Tryz.info_i64;obtain ⟨w1,s⟩:=dt ((w.alloc (.cells #[] 2)).alloc (.cells #[] 2));have p:dm (w1.ownsRow w.heap.size 2 1 (.slice (some ⟨w.heap.size,0,none⟩) 0 0) 0 []):=by
  exact tn
 have q:dm (w1.heap[w.heap.size+1]?=some (.cells #[] 2 (0,0))):=by
  show _=_;rw [<-s];exact jv
 have L:w.heap.size+1<w1.heap.size:=by rw [<-s];simp
 have o:dm (Below w.heap.size w w1):=by rw [<-s];exact ((Below.refl _ _).alloc (Nat.le_refl _) _).alloc dr _
 intro Kk;revert i0 hi af ak aq w1 s p q L o;exact Kk):P:=f h
theorem kb{P Q:Prop}(h:Q)(f:Q->P:=by
 have J:=f.u.went P O;have o:=Qe<|j.u.trans (f.u.bel O)
 have k:=Qe<|Qci q p hB g s B zs aft {c with lc:={c.lc with i:=c.lc.i+c.extra}} (c.base+F) w1 J eO hol dk dk hn0 hn1
 intro Kk;revert J o k;exact Kk):P:=f h
theorem rn{P Q:Prop}(h:Q)(f:Q->P:=by
 have an:(H:Int)/256=(x:Int):=dk;have aa:IntKind.u8.wrap (x:Int)=(x:Int):=dV;have E:IntKind.u8.wrap (H:Int)=(l:Int):=dV;have ax:(x:Int)%256=(x:Int):=dk;have O1:=Qe<|Qh7 w w.heap.size (x:Int) (l:Int) 5 (Nat.le_refl _)
 have B1:dm (Below w.heap.size w (w.alloc (.cells #[.int .u8 (x:Int),.int .u8 (l:Int)] 5))):=(Below.refl _ _).alloc (Nat.le_refl _) _;intro Kk;revert an aa E ax O1 B1;exact Kk):P:=f h
theorem qA{P Q:Prop}(h:Q)(f:Q->P:=by
 have I:=Qe<|Z2.u.same (g2.block z dk du)
 have S3:=Qe<|(S1.u.grown g1 du).grown g2 du
 have K:=Qe<|(Qi.grown O1.u g1 (fun k e e2=>by simp at e;subst e;exact b.u.2 e2)).grown g2 (fun k e e2=>by simp at e;subst e;exact b.u.2 e2)
 have B3:=Qe<|(B1.u.grown g1 dk (fun k e=>dJ)).grown g2 dk (fun k e=>dJ)
 intro Kk;revert I S3 K B3;exact Kk):P:=f h
theorem pZ{P Q:Prop}(h:Q)(f:Q->P:=by refine p8 ?_;intro an E;intro Kk;revert an E;exact Kk):P:=f h
theorem rz{P Q:Prop}(h:Q)(f:Q->P:=by
 have x:=VW<|Qfd w f mt xf os sz (.slice ae ze.length ce) (.slice an zn.length cn) (.slice ac zc.length cc) 28
 have E:dm (Below w.heap.size w (w.alloc (.cells #[.int .i64 f,.int .i64 mt,.int .i64 xf,.int .i64 os,.slice ae ze.length ce,.slice an zn.length cn,.slice ac zc.length cc,.int .i64 sz] 28))):=(Below.refl _ _).alloc (Nat.le_refl _) _;have HN:=VW hn;have HC:=VW hc;intro Kk;revert x E HN HC;exact Kk):P:=f h
theorem qD{P Q:Prop}(h:Q)(f:Q->P:=by have A:(F:Int)%256=(M:Int):=dk;have d:(F:Int)/256=(G:Int):=dk;have W:(M:Int)/16=(I:Int):=dk;have aF:G<256:=dk;have k:I<=7:=dk;have d1:((256*(M:Int)+(G:Int))%31 != 0)=false:=du;have d2:((M:Int)%16 != 8)=false:=du;have d3:decide ((I:Int) > 7)=false:=decide_eq_false dk;obtain ⟨K,hK⟩:=dt (I+8);have c:(I:Int)+8=(K:Int):=dk;intro Kk;revert A d W aF k d1 d2 d3 K hK c;exact Kk):P:=f h
theorem mg{P Q:Prop}(h:Q)(f:Q->P:=by
 have F:=Qg<|(m.u _ _).grown Q du gI
 intro Kk;revert F;exact Kk):P:=f h
theorem dP{P Q:Prop}(h:Q)(f:Q->P:=by obtain ⟨i0,hi,af,ak,aq⟩:=info_parts Tryz.info_u8s;intro Kk;revert i0 hi af ak aq;exact Kk):P:=f h
theorem jr{P Q:Prop}(h:Q)(f:Q->P:=by have hb:b<w.heap.size:=World.block_lt_of_cell? w _ (I k ab);have a5:wr.cell? ⟨b,U+k,none⟩=some (.int .i64 (zs.getD k 0)):=(a.cell (by exact hb)).trans (I k ab);intro Kk;revert hb a5;exact Kk):P:=f h
theorem rb{P Q:Prop}(h:Q)(f:Q->P:=by have V:wr.cell? ⟨l,512,none⟩=some (.int .i64 ((code F288 256).1:Nat)):=q.u.at0 256 dk;have u:wr.cell? ⟨l,513,none⟩=some (.int .u64 ((code F288 256).2:Nat)):=q.u.at1 256 dk;have y:dm (Qr zs=Qad zs zs.length++QV (code F288 256).2 (code F288 256).1):=rfl;have G:=QbT 256;have g:=QcI 256;intro Kk;revert V u y G g;exact Kk):P:=f h
theorem rq{P Q:Prop}(h:Q)(f:Q->P:=by
 obtain ⟨y,hy⟩:=dt (x%256);have j:(x:Int)%256=(y:Int):=dk;have g:IntKind.u8.wrap (y:Int)=(y:Int):=dV;have h:(y:Int)%256=(y:Int):=dk;obtain ⟨q,hq⟩:=dt (x/256);have f:(x:Int)/256=(q:Int):=dk;have d:q<4294967296:=dk;have a1:dm (V/2^(8*(k+1))=q):=by show _=_;rw [<-QiT,HX.u,hq]
 intro Kk;revert y hy j g h q hq f d a1;exact Kk):P:=f h
theorem jP{P Q:Prop}(h:Q)(f:Q->P:=by
 have E:=Qe<|HR.u.set (.slice ao Z cap) (T:Nat) cr
 have D:=Qe<|HL.u.grown E.u.2 HL.u.size dz
 obtain ⟨r0,r1,r2,rf⟩:=HR.u;have aE:=rf 0;have aC:=rf 1;have aD:=rf 2;intro Kk;revert E D r0 r1 r2 rf aE aC aD;exact Kk):P:=f h
theorem fT{P Q:Prop}(h:Q)(f:Q->P:=by
 have J:=f.u.went P O;have x:=Qe J;have o:=Qe<|j.u.trans (f.u.bel O)
 intro Kk;revert J x o;exact Kk):P:=f h
theorem po{P Q:Prop}(h:Q)(f:Q->P:=by
 have y:=Qe<|(l.u.grown (World.grownBy_alloc wr _ none) dr).grown Q m
 have R4:=Qe<|(q.u.grown (World.grownBy_alloc wr _ none) dr).grown Q au
 have G4:=Qe<|Qp (Qp O.u (World.grownBy_alloc wr _ none) (fun g e=>dx)) Q (fun g e=>orR (b.u g e) (fun h=>dk))
 intro Kk;revert y R4 G4;exact Kk):P:=f h
theorem gP{P Q:Prop}(h:Q)(f:Q->P:=by have a:=HM.u.below hd;have u:=a.went J ag;have z:=(QJ.below (p:=p) y hd).trans (QJ.num HM.u.ne a.lt ag);intro Kk;revert a u z;exact Kk):P:=f h
theorem kR{P Q:Prop}(h:Q)(f:Q->P:=by refine kQ ?_;intro R1 u r;intro Kk;revert R1 u r;exact Kk):P:=f h
theorem mJ{P Q:Prop}(h:Q)(f:Q->P:=by have Z:=(j.drewN q).grown (Qk r none) dr;have c:w3.cell? ⟨w.heap.size,0,none⟩=some (.pointer (some ⟨p,0,none⟩)):=(Qk r none).cell (by exact x) dr;have aw:w.grownBy w3 (some p):=Qj (Qj (World.grownBy_alloc w _ _) (Qk (Qo _ _ _) _)) (Qk r _);intro Kk;revert Z c aw;exact Kk):P:=f h
theorem oN{P Q:Prop}(h:Q)(f:Q->P:=by have h3:n=257\/n=258\/n=259\/n=260\/n=261\/n=262\/n=263\/n=264\/n=265\/n=266\/n=267\/n=268\/n=269\/n=270\/n=271\/n=272\/n=273\/n=274\/n=275\/n=276\/n=277\/n=278\/n=279\/n=280\/n=281\/n=282\/n=283\/n=284\/n=285:=dk;intro Kk;revert h3;exact Kk):P:=f h
theorem dY{P Q:Prop}(h:Q)(f:Q->P:=by have aE:=rf 0;have aC:=rf 1;have aD:=rf 2;intro Kk;revert aE aC aD;exact Kk):P:=f h
theorem fi{P Q:Prop}(h:Q)(f:Q->P:=by have F:g<w.heap.size:=rI;intro Kk;revert F;exact Kk):P:=f h
theorem oA{P Q:Prop}(h:Q)(f:Q->P:=by
 obtain ⟨X1,Z⟩:∃X1,X1=(D.take (s-p)).map (Value.int .u8):=⟨_,rfl⟩;obtain ⟨k,hk⟩:∃k,k=min (s-p) D.length:=⟨_,rfl⟩;have y:X1.length=k:=by rw [Z,hk];simp
 have au:k<=s-p:=dk;have W:k<=D.length:=dk;have Q:D.drop k=D.drop (s-p):=by
  exact tp
 have M:=QZ Q;have HK:=QZ hk;intro Kk;revert X1 Z k hk y au W Q M HK;exact Kk):P:=f h
theorem lb{P Q:Prop}(h:Q)(f:Q->P:=by
 have B2:=Qe<|l.u.grown Q f.u (fun g e=>fy)
 have o:=Qe<|F.u.grown Q (fun e=>eF)
 have O2:=Qe ho;intro Kk;revert B2 o O2;exact Kk):P:=f h
theorem iS{P Q:Prop}(h:Q)(f:Q->P:=by have g:=(J.gz.c 10 dn).trans (congrArg some ((Ql C _ dn).trans b.u));intro Kk;revert g;exact Kk):P:=f h
theorem oO{P Q:Prop}(h:Q)(f:Q->P:=by have h3:n=0\/n=1\/n=2\/n=3\/n=4\/n=5\/n=6\/n=7\/n=8\/n=9\/n=10\/n=11\/n=12\/n=13\/n=14\/n=15\/n=16\/n=17\/n=18\/n=19\/n=20\/n=21\/n=22\/n=23\/n=24\/n=25\/n=26\/n=27\/n=28\/n=29:=dk;intro Kk;revert h3;exact Kk):P:=f h
theorem oW{P Q:Prop}(h:Q)(f:Q->P:=by
 have G:=t.c32;have bj:=J.lm.free 32;have ag:=Qf w1 ⟨q,32,none⟩ (.int .i64 ((c.stored:Int)-(m:Int)));have u:∀ad,Q=some ad->w.drew.heap.size<=ad.block/\ad.block<w1.heap.size:=fun ad e=>⟨(A.lies ad e).1,(A.lies ad e).2.1⟩
 intro Kk;revert G bj ag u;exact Kk):P:=f h
theorem mK{P Q:Prop}(h:Q)(f:Q->P:=by
 obtain ⟨w1,s⟩:=dt (w.alloc (.cells #[.int .i64 0] 175));have c1:w1.cell? ⟨w.heap.size,0,none⟩=some (.int .i64 0):=by rw [<-s];simp [go_sem]
 have f1:w1.frozen? ⟨w.heap.size,0,none⟩=false:=by rw [<-s];simp [go_sem]
 intro Kk;revert w1 s c1 f1;exact Kk):P:=f h
theorem kT{P Q:Prop}(h:Q)(f:Q->P:=by
 have M1:=Qe<|HM.u.went P O
 have B1:=Qe<|HM.u.bel O
 have k1:=O.cell hz0 dW;intro Kk;revert M1 B1 k1;exact Kk):P:=f h
theorem iN{P Q:Prop}(h:Q)(f:Q->P:=by have al:=World.block_lt_of_cell? W _ hZ.z0;have y:=World.block_lt_of_cell? W _ hN.c0;intro Kk;revert al y;exact Kk):P:=f h
theorem qO{P Q:Prop}(h:Q)(f:Q->P:=by
 have cz:=Qe<|BY.u.set2 5
 have cq:=Qe<|RY.u.far2J (Qf bA ⟨w.heap.size+1,2,none⟩ (.int .i64 5)) dr
 have aU:=Qe<|LY.u.setCell (p:=⟨w.heap.size+1,2,none⟩) (by dsimp only;omega) (.int .i64 5)
 have cv:=Qe<|aW.u _ aU.u
 intro Kk;revert cz cq aU cv;exact Kk):P:=f h
theorem q9{P Q:Prop}(h:Q)(f:Q->P:=by have aW:b<w.heap.size:=World.block_lt_of_cell? w _ (x k ab);have S:=(L.u.cell (p:=⟨b,U+k,none⟩) aW).trans (x k ab);have r:=K.u.getD k;obtain ⟨j,B⟩:∃Z:Nat,zs.getD k 0=Z:=⟨(zs.getD k 0).toNat,dk⟩;intro Kk;revert aW S r j B;exact Kk):P:=f h
theorem qm{P Q:Prop}(h:Q)(f:Q->P:=by have T:w1.grownBy (w1.alloc (.cells #[.int .u8 x] 5)) none:=World.grownBy_alloc w1 _ _;have S:=a0.grown T (by intro j e;cases e);have al:=m.grown T dr dr;have aF:=QY c T (by intro g e;cases e);intro Kk;revert T S al aF;exact Kk):P:=f h
theorem rH{P Q:Prop}(h:Q)(f:Q->P:=by
 have ah:Qh ((zs.drop (i/8)).take n):=fun v hv=>hz v (List.mem_of_mem_drop (List.mem_of_mem_take hv))
 have ai:((zs.drop (i/8)).take n).length=n:=kh;intro Kk;revert ah ai;exact Kk):P:=f h
theorem pP{P Q:Prop}(h:Q)(f:Q->P:=by
 have HP:dm (∀(m P:Nat) (W:World),m<=62->2^m=P->Calls Tryz.prog 41 #[.int .i64 (m:Nat)] W fun e w'=>e=.returned (.int .i64 (P:Nat))/\w'=W):=fun m P W hm hP=>QaN m P hm hP W
 intro Kk;revert HP;exact Kk):P:=f h
theorem r9{P Q:Prop}(h:Q)(f:Q->P:=by have A:=Vn hzl hM.ok hb E;have ag:=Qf w1 ⟨z,2,none⟩ (.int .i64 (zsz (field (bnum zs) c.ic.lc.i 16):Nat));have aj:Below B W w1:=(Below.refl _ _).grown O b (fun k e=>gi);intro Kk;revert A ag aj;exact Kk):P:=f h
theorem ei{P Q:Prop}(h:Q)(f:Q->P:=by obtain ⟨i0,hi,af,ak,aq⟩:=info_parts Tryz.info_u8;intro Kk;revert i0 hi af ak aq;exact Kk):P:=f h
theorem gJ{P Q:Prop}(h:Q)(f:Q->P:=by obtain ⟨r0,r1,r2,f0,f1,f2⟩:=a.u;have B:=d.u.grown k4 d.u.size ef;intro Kk;revert r0 r1 r2 f0 f1 f2 B;exact Kk):P:=f h
theorem mS{P Q:Prop}(h:Q)(f:Q->P:=by
 have hC:∀i,i<16->(w.alloc (.cells L.toArray 156)).cell? ⟨w.heap.size,i,none⟩=some (.int .i64 (f i:Nat)):=by
  intro i hi;have:=hL i hi;simp [go_sem,this]
 intro Kk;revert hC;exact Kk):P:=f h
theorem dZ{P Q:Prop}(h:Q)(f:Q->P:=by obtain ⟨wr,C,am,cm,xs,f⟩:=hM.lo hb dk;intro Kk;revert wr C am cm xs f;exact Kk):P:=f h
theorem kI{P Q:Prop}(h:Q)(f:Q->P:=by have M:=QcM c c1;have x:c^^^4294967295<4294967296:=Nat.xor_lt_two_pow (n:=32) c1 dn;intro Kk;revert M x;exact Kk):P:=f h
theorem ns{P Q:Prop}(h:Q)(f:Q->P:=by
 have al:Below w.heap.size w (w.alloc (.cells #[.int .i64 0,.int .i64 0,.int .i64 0] 233)):=(Below.refl _ _).alloc (Nat.le_refl _) _;have av:=Qg al;have D:=Qg<|QfW w 0 0 0 233
 intro Kk;revert al av D;exact Kk):P:=f h
theorem jz{P Q:Prop}(h:Q)(f:Q->P:=by
 have I:=Qe<|HM.u.went (HM.u.rd.below hb) (Qk hb (some p))
 have al:=Qe<|QJ.below (p:=p) y hb
 intro Kk;revert I al;exact Kk):P:=f h
theorem kK{P Q:Prop}(h:Q)(f:Q->P:=by have ah:=Qg (fun A t=>HO.u.below ((Below.refl _ _).alloc (Nat.le_refl _) (.cells A t)));intro Kk;revert ah;exact Kk):P:=f h
theorem rJ{P Q:Prop}(h:Q)(f:Q->P:=by have j:=Qf w1 ⟨z,12,none⟩ (.int .u32 (hs:Nat));have g1:Gr2 w w1 p z:=(Gr2.refl w p z).below hb;have g2:=g1.grown j (fun g e=>iR);intro Kk;revert j g1 g2;exact Kk):P:=f h
theorem nF{P Q:Prop}(h:Q)(f:Q->P:=by
 have d:dm (∀A t,Below w.heap.size w (wr.alloc (.cells A t))):=fun A t=>HB.u.trans (((Below.refl _ _).alloc (Nat.le_refl _) _).mono HB.u.size)
 intro Kk;revert d;exact Kk):P:=f h
theorem sU{P Q:Prop}(h:Q)(f:Q->P:=by obtain ⟨f1,e1⟩:=h2.1 1 dk;obtain ⟨f2,e2⟩:=h2.1 2 dk;obtain ⟨f3,R⟩:=h2.1 3 dk;obtain ⟨f7,e7⟩:=h2.1 7 dk;obtain ⟨a4,n4,k4,V⟩:=h2.2 4 dk dk;obtain ⟨a5,n5,k5,e5⟩:=h2.2 5 dk dk;obtain ⟨a6,n6,k6,e6⟩:=h2.2 6 dk dk;intro Kk;revert f1 e1 f2 e2 f3 R f7 e7 a4 n4 k4 V a5 n5 k5 e5 a6 n6 k6 e6;exact Kk):P:=f h
theorem fD{P Q:Prop}(h:Q)(f:Q->P:=by
 have hl:n=zs.length:=by have:=h.1;simp at this;omega
 intro Kk;revert hl;exact Kk):P:=f h
theorem nE{P Q:Prop}(h:Q)(f:Q->P:=by
 have a:X<=15:=hX▸hc.most;have b:∀x,Hit zs k x↔x%512=Y%512/\x/512%64%2^(X-9)=Y/512:=fun x=>by
  rw [<-QgI x Y X h9 a hYl];exact nB
 intro Kk;revert a b;exact Kk):P:=f h
theorem nN{P Q:Prop}(h:Q)(f:Q->P:=by have h3:k=0\/k=1\/k=2\/k=3\/k=4\/k=5\/k=6\/k=7\/k=8\/k=9\/k=10\/k=11\/k=12\/k=13\/k=14\/k=15\/k=16\/k=17\/k=18:=dk;intro Kk;revert h3;exact Kk):P:=f h
theorem gY{P Q:Prop}(h:Q)(f:Q->P:=by have o:=Qe (show 3<=B/\B<=q/\B<=p/\B<=g from hM.bs);intro Kk;revert o;exact Kk):P:=f h
theorem pM{P Q:Prop}(h:Q)(f:Q->P:=by
 have hl:=h.sm.lt;have j:=h.sm.grown hg (fun k e=>h.u k e);have f:∀g,Qt a'=some g->Qt a0=some g\/w.heap.size+4<=g:=fun g e=>by
  exact tq
 intro Kk;revert hl j f;exact Kk):P:=f h
theorem jT{P Q:Prop}(h:Q)(f:Q->P:=by
 have hl:(rs.map (Value.int .u8)).length=32768:=by rw [List.length_map,h.len]
 intro Kk;revert hl;exact Kk):P:=f h
theorem fU{P Q:Prop}(h:Q)(f:Q->P:=by
 have BW:=Qe o.u.1;have L:=Qe<|R2.u.grown o.u.2 dr
 have z:=Qe<|L2.u.grown o.u.2 jO dz
 obtain ⟨b0,b1,b2,C⟩:=B2.u;intro Kk;revert BW L z b0 b1 b2 C;exact Kk):P:=f h
theorem eD{P Q:Prop}(h:Q)(f:Q->P:=by
 have M:=Qe<|BW.u.below hb
 have R':=Qe<|L.u.below hb
 have K:=Qe<|z.u.trans (hb.mono z.u.size)
 intro Kk;revert M R' K;exact Kk):P:=f h
theorem qS{P Q:Prop}(h:Q)(f:Q->P:=by
 obtain ⟨i0,aU,af,ak,aq⟩:=info_parts Tryz.info_u8;have aw:dm (∀W (T:Nat),Below w.heap.size w W->T<=8*zs.length->Calls Tryz.prog 48 #[.agg #[.slice ao zs.length cap,.int .i64 (T:Nat),.int .i64 0],.int .i64 8] W fun e w'=>e=.returned (.tuple #[.agg #[.slice ao zs.length cap,.int .i64 ((tk zs (T,0) 8).1.1:Nat),.int .i64 (tk zs (T,0) 8).1.2],.int .i64 ((tk zs (T,0) 8).2:Nat)])/\Below W.heap.size W w'):=fun W T hW hr1=>VN ao cap zs T 8 0 W (hr.below hW) hz hzl hr1 dn
 intro Kk;revert i0 aU af ak aq aw;exact Kk):P:=f h
theorem gn{P Q:Prop}(h:Q)(f:Q->P:=by
 have i:=Qe<|l.u.grown Q l.u.size (fun g e=>fy)
 have d:=Qe<|F.u.grown Q (fun e=>eF)
 intro Kk;revert i d;exact Kk):P:=f h
theorem er{P Q:Prop}(h:Q)(f:Q->P:=by have aE:=t 0;have aD:=t 1;have aC:=t 2;have aK:=l 0;have aO:=l 1;have aB:=l 2;have aF:=l 3;intro Kk;revert aE aD aC aK aO aB aF;exact Kk):P:=f h
theorem dG{P Q:Prop}(h:Q)(f:Q->P:=by obtain ⟨⟨b0,b1,b2,C⟩,t0,t1,t2,t3,⟨V,u,x2,t⟩,y0,F,y2,y3,P,l⟩:=S.u.sm;intro Kk;revert l;revert P;revert y3;revert y2;revert F;revert y0;revert t;revert x2;revert u;revert V;revert t3;revert t2;revert t1;revert t0;revert C;revert b2;revert b1;revert b0;exact Kk):P:=f h
theorem ma{P Q:Prop}(h:Q)(f:Q->P:=by
 have R7:=Qe<|R6.u.grown E7.u.2 dr
 have p:=Qe<|X6.u.grown E7.u.2 du
 have L7:=Qe<|L6.u.grown E7.u.2 (by have:=B6.u.lt;omega) dz
 have B7:=Qe E7.u.1;intro Kk;revert R7 p L7 B7;exact Kk):P:=f h
theorem ry{P Q:Prop}(h:Q)(f:Q->P:=by
 obtain ⟨m,Z⟩:∃m:Option Addr,some ⟨w.heap.size,0,none⟩=m:=⟨_,rfl⟩;obtain ⟨C,B⟩:∃C:Nat,0=C:=⟨_,rfl⟩;obtain ⟨E,a⟩:∃L:List Int,[]=L:=⟨_,rfl⟩;have bl:E.length<=30000:=by rw [<-a];simp
 have ah:=Qe a;have t:dm (Value.slice (some ⟨w.heap.size,0,none⟩) 0 0=.slice m E.length C):=by show _=_;rw [Z,<-B,<-a];rfl
 intro Kk;revert t;revert ah;revert bl;revert a;revert E;revert B;revert C;revert Z;revert m;exact Kk):P:=f h
theorem qW{P Q:Prop}(h:Q)(f:Q->P:=by
 have E:=Qe<|B2.u.set (.slice ao Z cap) (i2:Nat) c2
 have R3:=Qe<|R2.u.grown E.u.2 dr
 have K:=Qe<|Qi.grown O2.u E.u.2 (fun k e e2=>by simp at e;have:=Qi.based O2.u k e2;omega)
 have D:=Qe<|L2.u.grown E.u.2 jO dz
 have s3:=Nat.le_trans j E.u.2.size;intro Kk;revert E R3 K D s3;exact Kk):P:=f h
theorem rp{P Q:Prop}(h:Q)(f:Q->P:=by
 have O0:dm (Qi 5 w.heap.size (w.alloc (.cells #[] 5)) (some ⟨w.heap.size,0,none⟩) 0 []):=own1 w _ _ _ (Nat.le_refl _) rfl;have B0:dm (Below w.heap.size w (w.alloc (.cells #[] 5))):=(Below.refl _ _).alloc (Nat.le_refl _) _;have B:dm (V/2^(8*0)=V):=by show _=_;simp
 intro Kk;revert O0 B0 B;exact Kk):P:=f h
theorem rU{P Q:Prop}(h:Q)(f:Q->P:=by
 have n:((hs:Nat):Int).tmod 65536=(R:Int):=by rw [Int.tmod_eq_emod_of_nonneg dk,<-P];omega
 have u:IntKind.i64.wrap (R:Int)=(R:Int):=by rw [IntKind.wrap_i64];first|omega|(unfold wrap64;omega)
 have k:IntKind.u32.wrap (R:Int)=(R:Int):=kM;intro Kk;revert n u k;exact Kk):P:=f h
theorem sn{P Q:Prop}(h:Q)(f:Q->P:=by
 have L:Rd w3 p a zs 0:=⟨Nat.zero_le _,P,a2,c2,u,Q,m,G,j.2⟩;have N3:=N2.u.same<|a0 q aa dk (fun e=>b.u.2.1 e)
 have I:=Z2.u.same<|a0 z al dk (fun e=>b.u.2.2 e)
 have B3:=Qe<|B2.u.trans (ah.mono (Nat.le_succ _))
 have G3:=HG.u.below B3.u H;intro Kk;revert L N3 I B3 G3;exact Kk):P:=f h
theorem kn{P Q:Prop}(h:Q)(f:Q->P:=by
 have B2:=Qe<|B1.u.below ah
 have R2:=Qe<|R1.u.below ah
 have L2:=Qe<|L1.u.trans (ah.mono L1.u.size)
 intro Kk;revert B2 R2 L2;exact Kk):P:=f h
theorem qy{P Q:Prop}(h:Q)(f:Q->P:=by
 have HL:dm (∀k,Qt a1=some k->k<w1.heap.size):=fun k e=>by
  cases a1 with
  | none=>cases e
  | some ad=>
   have:=(hO.mine.lies ad rfl).2.1;exact fd
 have b:=Qe<|And.intro V a
 have a0:w.heap.size<=w1.heap.size:=hb.size;intro Kk;revert HL b a0;exact Kk):P:=f h
theorem pK{P Q:Prop}(h:Q)(f:Q->P:=by
 have U:=Qg<|World.ownsRow.kept (ah.u _ _) Q (.inr (fun e=>an (Option.some.inj e).symm))
 have F:=Qg<|(m.u _ _).grown Q du gI
 have M:g4≠g:=by
  exact ts
 intro Kk;revert U F M;exact Kk):P:=f h
theorem qI{P Q:Prop}(h:Q)(f:Q->P:=by
 have m:w2.cell? ⟨q,30,none⟩=some (.slice X c.u.length G):=l;have x:Qi 5 B w2 X G c.u:=R;have H:=Qe<|Qbp q c.u.length G X w2 m x.mine.fits x.mine.most x.mine.nil_len
 have AD:=Qe<|f.u X G w2 x.mine.row x.mine.fits
 intro Kk;revert m x H AD;exact Kk):P:=f h
theorem nb{P Q:Prop}(h:Q)(f:Q->P:=by
 have au:=Qg ai;have j:=Qg m;have a1:=Qg<|all_oneCell_toArray m
 have r:=fun W (h:W.rangeAt w.heap.size 0 L)=>run_loadVar_mid (P:=Tryz.prog) W w.heap.size 0 156 L _ h Tryz.underlying156 rfl D
 have B:=Qg<|r _ g.u
 intro Kk;revert au j a1 r B;exact Kk):P:=f h
theorem oV{P Q:Prop}(h:Q)(f:Q->P:=by have J:=f.u.went P O;have h2:=J.setq 32 dk (.int .i64 ((c.stored:Int)-(m:Int))) c.last (c.stored-m) c.base c.extra c.len dr du dr dr dr;intro Kk;revert J h2;exact Kk):P:=f h
theorem kN{P Q:Prop}(h:Q)(f:Q->P:=by
 have HN:=Qe<|Q7 q p hB zs i 16 w hm h hz hzl dn hn
 have Y:field (bnum zs) i 16<65536:=Q4 _ _ _;intro Kk;revert HN Y;exact Kk):P:=f h
theorem kq{P Q:Prop}(h:Q)(f:Q->P:=by have an:=Qe (fun A t=>K.u.grown (World.grownBy_alloc wr (.cells A t) none) (by intro j e;cases e));intro Kk;revert an;exact Kk):P:=f h
theorem kL{P Q:Prop}(h:Q)(f:Q->P:=by have m:=Qg (fun A t=>HB.u.trans (((Below.refl _ _).alloc (Nat.le_refl _) (.cells A t)).mono C));intro Kk;revert m;exact Kk):P:=f h
theorem ra{P Q:Prop}(h:Q)(f:Q->P:=by
 have y:dm (Qad zs (k+1)=Qad zs k++QV (code F288 j).2 (code F288 j).1):=by show _=_;rw [Qad,B];rfl
 have V:=q.u.at0 j dk;have u:=q.u.at1 j dk;have G:=QbT j;have g:=QcI j;intro Kk;revert y V u G g;exact Kk):P:=f h
theorem fR{P Q:Prop}(h:Q)(f:Q->P:=by have hd:Below w.heap.size w w.drew:=(Below.refl _ _).drew;intro Kk;revert hd;exact Kk):P:=f h
theorem iI{P Q:Prop}(h:Q)(f:Q->P:=by
 have q0:=hM.lm.c0;have HM:=Qe hM;have AL:=Qe<|Qcx p hB zs c.lc.i w hM.lm.rd hzl
 intro Kk;revert q0 HM AL;exact Kk):P:=f h
theorem fH{P Q:Prop}(h:Q)(f:Q->P:=by have N:p<w.heap.size:=World.block_lt_of_cell? w _ hs.1;intro Kk;revert N;exact Kk):P:=f h
theorem rA{P Q:Prop}(h:Q)(f:Q->P:=by have HR:dm (vmem f mt xf os sz ze zn zc=(vmn f mt xf os sz && vmf f ze.length zn.length zc.length && vmt zn zc && vmr ze.length zn.length zc.length)):=rfl;intro Kk;revert HR;exact Kk):P:=f h
theorem kJ{P Q:Prop}(h:Q)(f:Q->P:=by have N:=hc.lt;have s:dm (∀ad,co=some ad->0<cs.length->ad.block<w.heap.size):=hco;intro Kk;revert N s;exact Kk):P:=f h
theorem iL{P Q:Prop}(h:Q)(f:Q->P:=by
 have m:=Qe<|Qi.based y.u
 have n:w.heap.size<wr.heap.size:=d.u.lt;intro Kk;revert m n;exact Kk):P:=f h
theorem ig{P Q:Prop}(h:Q)(f:Q->P:=by
 have N:=Qe<|Qp O.u P.u.2 (fun g e=>by simp at e;right;omega)
 intro Kk;revert N;exact Kk):P:=f h
theorem sG{P Q:Prop}(h:Q)(f:Q->P:=by
 have x:=Qe<|Qfd w 0 0 0 0 (zs.length:Nat) (.slice none 0 0) (.slice none 0 0) (.slice none 0 0) 28
 have u:dm (Below w.heap.size w (w.alloc (.cells #[.int .i64 0,.int .i64 0,.int .i64 0,.int .i64 0,.slice none 0 0,.slice none 0 0,.slice none 0 0,.int .i64 (zs.length:Nat)] 28))):=(Below.refl _ _).alloc (Nat.le_refl _) _;obtain ⟨n,M⟩:=dt zs.length;intro Kk;revert x u n M;exact Kk):P:=f h
theorem eu{P Q:Prop}(h:Q)(f:Q->P:=by obtain ⟨b0,b1,b2,C⟩:=M.u;have z1:=M.u.lt;have ag:=C 0;have G:=C 1;have ae:=C 2;intro Kk;revert b0 b1 b2 C z1 ag G ae;exact Kk):P:=f h
theorem iD{P Q:Prop}(h:Q)(f:Q->P:=by have DN:=Qe (fun W hW=>S.u.post (Rel:=fun r' all'=>Vu s zs pr D k cf 8 (fun c=>c.last=b) r' all'/\i<=r'.1) aj.u W hW);intro Kk;revert DN;exact Kk):P:=f h
theorem mc{P Q:Prop}(h:Q)(f:Q->P:=by
 have R8:=Qe<|R7.u.grown d.u dr
 have X8:=Qe<|p.u.grown d.u du
 have L8:=Qe<|L7.u.grown d.u (by have:=B7.u.lt;omega) dz
 intro Kk;revert R8 X8 L8;exact Kk):P:=f h
theorem iF{P Q:Prop}(h:Q)(f:Q->P:=by
 have S3:=Qe<|S.u.told ai Y af (.slice ao Z cap) ((T:Nat):Int) cr
 have SG:=Qe<|S.u.sm.grown Y (fun k e=>S.u.u k e)
 intro Kk;revert S3 SG;exact Kk):P:=f h
theorem pT{P Q:Prop}(h:Q)(f:Q->P:=by
 have S:=Qe<|Qfi w a B (.slice ao Z cap) (i:Nat) 0 c all (D:Nat) (s:Nat) Mx 85 91 ho
 have L:=Qe<|QbQ w (.slice ao Z cap) (i:Nat) 0 (.slice a all.length c) (D:Nat) (s:Nat) Mx 85 91
 have HZ:=Qhi w (.slice ao Z cap) (i:Nat) 0 (.slice a all.length c) (D:Nat) (s:Nat) Mx 85 91;intro Kk;revert S L HZ;exact Kk):P:=f h
theorem rx{P Q:Prop}(h:Q)(f:Q->P:=by have y:dm (Qi 5 w.heap.size (w.alloc (.cells #[] 5)) (some ⟨w.heap.size,0,none⟩) 0 []):=own1 w _ _ _ (Nat.le_refl _) rfl;have i:dm (Below w.heap.size w (w.alloc (.cells #[] 5))):=(Below.refl _ _).alloc (Nat.le_refl _) _;intro Kk;revert y i;exact Kk):P:=f h
theorem p8{P Q:Prop}(h:Q)(f:Q->P:=by
 have an:∀ad,ao=some ad->some ad.block≠Qt a:=fun ad e h=>by have:=Qi.based ho ad.block h.symm;have:=hrb ad e;omega
 have E:dm (∀W,w.grownBy W (Qt a)->Q1 W ao zs):=fun W hg=>hr.grown hg an
 intro Kk;revert an E;exact Kk):P:=f h
theorem pV{P Q:Prop}(h:Q)(f:Q->P:=by
 have S:=Qe<|O.u.setR (.slice ao Z cap) ((i5:Nat):Int) c5
 have L:=Qe<|K.u.grown (QD _ w.heap.size (.slice ao Z cap) ((i5:Nat):Int) c5) fX dz
 intro Kk;revert S L;exact Kk):P:=f h
theorem qV{P Q:Prop}(h:Q)(f:Q->P:=by
 have B2:=Qe<|HB.u.below aj
 have R2:=Qe<|HR.u.below aj
 have O2:=Qe<|HO.u.below aj
 have j:w.heap.size+2<=w1.heap.size:=Nat.le_trans HS.u aj.size;have s:w.heap.size<=wr.heap.size:=HL.u.size;have L2:=Qe<|HL.u.trans (aj.mono s)
 intro Kk;revert B2 R2 O2 j s L2;exact Kk):P:=f h
theorem pJ{P Q:Prop}(h:Q)(f:Q->P:=by have ad:g<wr.heap.size:=(HO.u.lt g rfl).2;have C:=HB.u.size;have I:=Qg (fun A t=>World.ownsRow.kept HD.u (World.grownBy_alloc wr (.cells A t) none) (.inr gH));intro Kk;revert ad C I;exact Kk):P:=f h
theorem kU{P Q:Prop}(h:Q)(f:Q->P:=by
 have o:=Qe<|M1.u.went J ag
 have B2:=Qe<|B1.u.trans (M1.u.bel ag)
 have k2:=ag.cell k1 dW;intro Kk;revert o B2 k2;exact Kk):P:=f h
theorem ll{P Q:Prop}(h:Q)(f:Q->P:=by
 have x:=Qe<|b.u.below hb
 have k0:=(x.u.1.gz.c 0 dn).trans (congrArg some x.u.1.c0);intro Kk;revert x k0;exact Kk):P:=f h
theorem pl{P Q:Prop}(h:Q)(f:Q->P:=by
 have K:=Qe<|HO.u.below z.u
 have O:=Qe<|Qk z.u (Qt aa)
 have b:dm (∀g,Qt aa=some g->Qt aa=some g\/w.heap.size+2<=g):=fun g e=>.inl e
 have l:=BW;have q:=L;intro Kk;revert K O b l q;exact Kk):P:=f h
theorem kO{P Q:Prop}(h:Q)(f:Q->P:=by obtain ⟨M,hM⟩:=dt (F%256);obtain ⟨G,X⟩:=dt (F/256);obtain ⟨I,hI⟩:=dt (M/16);intro Kk;revert M hM G X I hI;exact Kk):P:=f h
theorem kG{P Q:Prop}(h:Q)(f:Q->P:=by
 have AN:dm (Vu s zs pr D k cf (bst L1) (fun _=>True) (T,cr) ah):=by
  exact tu
 have ay:T<=8*Z:=by rw [<-av.u];exact a3.u.1.le
 intro Kk;revert AN ay;exact Kk):P:=f h
theorem fp{P Q:Prop}(h:Q)(f:Q->P:=by
 have O:=Qe<|S.u.below hb
 have K:=Qe<|L.u.trans (hb.mono L.u.size)
 intro Kk;revert O K;exact Kk):P:=f h
theorem lZ{P Q:Prop}(h:Q)(f:Q->P:=by
 have B6:=Qe<|g.u.below aj
 have R6:=Qe<|R5.u.below aj
 have X6:=Qe<|O.u.below aj
 have L6:=Qe<|B.u.trans (aj.mono B.u.size)
 intro Kk;revert B6 R6 X6 L6;exact Kk):P:=f h
theorem dR{P Q:Prop}(h:Q)(f:Q->P:=by obtain ⟨b0,b1,b2,C⟩:=BW.u;have z1:=BW.u.lt;intro Kk;revert b0 b1 b2 C z1;exact Kk):P:=f h
theorem iC{P Q:Prop}(h:Q)(f:Q->P:=by
 have S:=Qe<|O.u.setR (.slice ao Z cap) ((i1:Nat):Int) c1
 intro Kk;revert S;exact Kk):P:=f h
theorem rv{P Q:Prop}(h:Q)(f:Q->P:=by have aE:(H:Int)%18446744073709551616=(H:Int):=dk;have aB:IntKind.u64.wrap (H:Int)=(H:Int):=dN;have c:=Qe (fun W=>QbV H 2 W dk dn);intro Kk;revert aE aB c;exact Kk):P:=f h
theorem iT{P Q:Prop}(h:Q)(f:Q->P:=by have HF:=Qe (fun W=>QB (fl:Nat) E t r H s I D A J o G L cc 2 W);intro Kk;revert HF;exact Kk):P:=f h
theorem kY{P Q:Prop}(h:Q)(f:Q->P:=by
 obtain ⟨P,hP⟩:=dt (pk (Qr zs));have HP:=Qe hP;have aC:P.length<=20000:=by
  exact rm
 intro Kk;revert P hP HP aC;exact Kk):P:=f h
theorem qU{P Q:Prop}(h:Q)(f:Q->P:=by
 have TK:=Qe<|aw.u wr T HL.u P.u
 have hb:=QhL zs (T,0);have a0:dm ((tk zs (T,0) 8).1.1<=8*Z):=ou;intro Kk;revert TK hb a0;exact Kk):P:=f h
theorem kQ{P Q:Prop}(h:Q)(f:Q->P:=by
 have R1:=Qe P;have u:=Qe O;have r:=Qe<|HZ.u.same (O.block z al dW)
 intro Kk;revert R1 u r;exact Kk):P:=f h
theorem eE{P Q:Prop}(h:Q)(f:Q->P:=by have aH:=P 0;have aN:=P 1;have aM:=P 2;have aP:=P 3;intro Kk;revert aH aN aM aP;exact Kk):P:=f h
theorem kE{P Q:Prop}(h:Q)(f:Q->P:=by
 have S:=Qe<|aR.u.grown E.u.2 (fun g e he=>by have:=aR.u.base g he;simp at e;omega)
 intro Kk;revert S;exact Kk):P:=f h
theorem dO{P Q:Prop}(h:Q)(f:Q->P:=by obtain ⟨⟨b0,b1,b2,C⟩,t0,t1,t2,t3,⟨V,u,x2,t⟩,y0,F,y2,y3,P,l⟩:=O.u.sm;intro Kk;revert l;revert P;revert y3;revert y2;revert F;revert y0;revert t;revert x2;revert u;revert V;revert t3;revert t2;revert t1;revert t0;revert C;revert b2;revert b1;revert b0;exact Kk):P:=f h
theorem dk{P:Prop}(h:P:=by omega):P:=h
theorem dn{P:Prop}(h:P:=by decide):P:=h
theorem du{P:Prop}(h:P:=by simp;omega):P:=h
theorem dr{P:Prop}(h:P:=by simp):P:=h
theorem dB{P:Prop}(h:P:=by first|(simp;done)|(simp;omega)):P:=h
theorem dz{P:Prop}(h:P:=by intro k e;simp at e;omega):P:=h
theorem dy{P:Prop}(h:P:=by unfold maxLen;omega):P:=h
theorem dE{P:Prop}(h:P:=by unfold Q8;omega):P:=h
theorem dK{P:Prop}(h:P:=by unfold maxLen;simp;omega):P:=h
theorem dC{P:Prop}(h:P:=by assumption):P:=h
theorem dx{P:Prop}(h:P:=by cases e):P:=h
theorem dN{P:Prop}(h:P:=by rw [IntKind.wrap_u64];omega):P:=h
theorem dF{P:Prop}(h:P:=by simp [go_sem]):P:=h
theorem fv{P:Prop}(h:P:=by first|exact (Below.refl _ _).drew|exact Qo _ _ _|exact Below.refl _ _):P:=h
theorem dJ{P:Prop}(h:P:=by simp at e;omega):P:=h
theorem d7{P:Prop}(h:P:=by have:=HM.u.lm.ne;simpa using this):P:=h
theorem d5{P:Prop}(h:P:=by have h:=QO hi;dsimp only;omega):P:=h
theorem dS{P:Prop}(h:P:=by rw [List.length_take];omega):P:=h
theorem dV{P:Prop}(h:P:=by rw [IntKind.wrap_u8];omega):P:=h
theorem dM{P:Prop}(h:P:=by simp [intOf];omega):P:=h
theorem iJ{P:Prop}(h:P:=by first|(rw [IntKind.wrap_i64];omega)|(rw [IntKind.wrap_i64];unfold wrap64;omega)):P:=h
theorem eB{P:Prop}(h:P:=by intro u hu;simp at hu;subst hu;rfl):P:=h
theorem r6{P:Prop}(h:P:=by first|exact (Below.refl _ _).drew.alloc (Nat.le_refl _) _|exact (Qo _ _ _).alloc (Nat.le_refl _) _|exact (Below.refl _ _).alloc (Nat.le_refl _) _):P:=h
theorem d8{P:Prop}(h:P:=by first|exact P1|exact P2):P:=h
theorem ef{P:Prop}(h:P:=by intro q e;simp at e;omega):P:=h
theorem eG{P:Prop}(h:P:=by rw [<-b,List.length_append];omega):P:=h
theorem gp{P:Prop}(h:P:=by rw [<-b,List.length_append];first|omega|(simp;omega)):P:=h
theorem ek{P:Prop}(h:P:=by show ¬(2:Nat)=0;omega):P:=h
theorem en{P:Prop}(h:P:=by show ¬(2:Nat)=1;omega):P:=h
theorem dW{P:Prop}(h:P:=by simpa using hzp):P:=h
theorem eQ{P:Prop}(h:P:=by have:=HS.u;show 7<=c.st;omega):P:=h
theorem ft{P:Prop}(h:P:=by intro j e;simp at e;subst e;exact f):P:=h
theorem dQ{P:Prop}(h:P:=by simpa using D):P:=h
theorem eH{P:Prop}(h:P:=by rw [List.length_drop];omega):P:=h
theorem s5{P:Prop}(h:P:=by intro k e e2;simp at e;cases C with|none=>cases e2|some ad=>simp [Qt] at e2;have:=aH.u ad rfl;omega):P:=h
theorem s9{P:Prop}(h:P:=by intro k e e2;simp at e;cases Q with|none=>cases e2|some ad=>simp [Qt] at e2;have:=bH.u ad rfl;omega):P:=h
theorem lz{P:Prop}(h:P:=by first|(rw [QdQ _ _ _ rfl rfl];done)|(rw [QdQ _ _ _ rfl rfl];rfl)):P:=h
theorem eA{P:Prop}(h:P:=by show c.lc.i+l<=_;omega):P:=h
theorem eF{P:Prop}(h:P:=by have:=m.u _ e.symm;omega):P:=h
theorem gK{P:Prop}(h:P:=by simp [results,Tryz.results194,go_sem,y0,F,y2]):P:=h
theorem ik{P:Prop}(h:P:=by simp [results,Tryz.results121,go_sem,y0,F,y2]):P:=h
theorem kB{P:Prop}(h:P:=by simp [results,Tryz.results118,go_sem,k0,k1,k2,k3,k4,k5,k6]):P:=h
theorem kD{P:Prop}(h:P:=by simp [results,Tryz.results123,go_sem,k0,k1,k2,k3,k4,k5,k6]):P:=h
theorem eJ{P:Prop}(h:P:=by simp;exact Ne.symm h.ne):P:=h
theorem gI{P:Prop}(h:P:=by intro t e;simp [Value.ownBlock] at e;omega):P:=h
theorem eh{P:Prop}(h:P:=by simp [Act.eval]):P:=h
theorem dU{P:Prop}(h:P:=by cases e;rfl):P:=h
theorem kF{P:Prop}(h:P:=by simp [results,Tryz.results82,go_sem,k0,k1,k2,k3,k4,k5,k6]):P:=h
theorem eN{P:Prop}(h:P:=by unfold wr;split<;>omega):P:=h
theorem eV{P:Prop}(h:P:=by show (2:Nat)<=3;omega):P:=h
theorem rX{P:Prop}(h:P:=by first|exact M3.u|exact M3.u.below (Below.refl _ _).drew|exact M3.u.below (Qo _ _ _)):P:=h
theorem rY{P:Prop}(h:P:=by first|exact B3.u|exact B3.u.trans (Below.refl _ _).drew|exact B3.u.trans (Qo _ _ _)):P:=h
theorem ew{P:Prop}(h:P:=by simpa using hzq):P:=h
theorem fZ{P:Prop}(h:P:=by have:=(BW.u.below t).lt;omega):P:=h
theorem qQ{P:Prop}(h:P:=by first|exact ax|exact (Below.refl _ _).drew.trans ax|exact (Qo _ _ _).trans ax):P:=h
theorem kp{P:Prop}(h:P:=by show _=_;rw [List.replicate_succ',List.append_assoc]):P:=h
theorem iH{P:Prop}(h:P:=by rw [World.frozen?_setCell];exact h.f k):P:=h
theorem fW{P:Prop}(h:P:=by simp at e;have:=h.u k e2;omega):P:=h
theorem eO{P:Prop}(h:P:=by show 7<=c.st;omega):P:=h
theorem iy{P:Prop}(h:P:=by have:=hA.le;dsimp only at this;omega):P:=h
theorem ju{P:Prop}(h:P:=by simp [results,Tryz.results164,go_sem,y0,F,y2]):P:=h
theorem me{P:Prop}(h:P:=by simp [results,Tryz.results120,go_sem,y0,F,y2]):P:=h
theorem eg{P:Prop}(h:P:=by decide+kernel):P:=h
theorem ko{P:Prop}(h:P:=by unfold tk;rw [if_pos rfl,av.u,if_pos hb,<-hI]):P:=h
theorem eT{P:Prop}(h:P:=by have:=hb.size;omega):P:=h
theorem iR{P:Prop}(h:P:=by simp at e;exact .inr (.inl e.symm)):P:=h
theorem gl{P:Prop}(h:P:=by rw [List.length_set];omega):P:=h
theorem lT{P:Prop}(h:P:=by rw [List.length_drop,List.length_set];omega):P:=h
theorem kh{P:Prop}(h:P:=by rw [List.length_take,List.length_drop];omega):P:=h
theorem kH{P:Prop}(h:P:=by intro k e;simp [Value.ownBlock] at e;omega):P:=h
theorem eM{P:Prop}(h:P:=by simp;exact h.neh):P:=h
theorem jA{P:Prop}(h:P:=by simp [results,Tryz.results215,go_sem,flt]):P:=h
theorem ff{P:Prop}(h:P:=by show 4<=c.st;omega):P:=h
theorem fk{P:Prop}(h:P:=by dsimp only at e;omega):P:=h
theorem kd{P:Prop}(h:P:=by simp [results,Tryz.results203,go_sem,flt]):P:=h
theorem kf{P:Prop}(h:P:=by simp [results,Tryz.results152,go_sem,flt]):P:=h
theorem iE{P:Prop}(h:P:=by have:=S.u.sm.lt;have:=aW.u;omega):P:=h
theorem ni{P:Prop}(h:P:=by rw [World.frozen?_setCell,World.frozen?_setCell];exact h.free o):P:=h
theorem eC{P:Prop}(h:P:=by rw [Ve];omega):P:=h
theorem fJ{P:Prop}(h:P:=by simp;have:=h.two;omega):P:=h
theorem f9{P:Prop}(h:P:=by show ¬(1:Nat)=0;omega):P:=h
theorem mL{P:Prop}(h:P:=by rw [<-s,World.cell?_alloc_lt _ _ ⟨1,0,none⟩ ab];exact hg):P:=h
theorem pD{P:Prop}(h:P:=by rw [h4,h6.1.2,List.length_append,List.length_drop];exact hL):P:=h
theorem kt{P:Prop}(h:P:=by unfold tk;rw [if_pos rfl,av.u,if_neg hb]):P:=h
theorem mq{P:Prop}(h:P:=by show _=_;rw [List.length_append,d.u];rfl):P:=h
theorem gL{P:Prop}(h:P:=by simp [Value.ownBlock];omega):P:=h
theorem jB{P:Prop}(h:P:=by simp [results,Tryz.results206,go_sem]):P:=h
theorem jG{P:Prop}(h:P:=by simp [results,Tryz.results210,go_sem]):P:=h
theorem jX{P:Prop}(h:P:=by simp [results,Tryz.results105,go_sem]):P:=h
theorem kg{P:Prop}(h:P:=by simp [results,Tryz.results152,go_sem]):P:=h
theorem iv{P:Prop}(h:P:=by simp at e;have:=aG k e2;omega):P:=h
theorem fX{P:Prop}(h:P:=by have:=O.u.sm.lt;omega):P:=h
theorem qc{P:Prop}(h:P:=by simp [results,Tryz.results43,go_sem,k0,k1,k2,k3,k4,k5,k6]):P:=h
theorem fy{P:Prop}(h:P:=by have:=m.u g e;omega):P:=h
theorem sK{P:Prop}(h:P:=by simp only [gH0,List.mem_cons] at hv ⊢;simp at hv;omega):P:=h
theorem jK{P:Prop}(h:P:=by simp [results,Tryz.results40,go_sem]):P:=h
theorem jL{P:Prop}(h:P:=by simp [results,Tryz.results48,go_sem]):P:=h
theorem jR{P:Prop}(h:P:=by simp [results,Tryz.results46,go_sem]):P:=h
theorem lM{P:Prop}(h:P:=by simp [results,Tryz.results38,go_sem]):P:=h
theorem mn{P:Prop}(h:P:=by rw [List.length_append,d.u];simp;omega):P:=h
theorem ou{P:Prop}(h:P:=by have J:=P.u;have h2:=HZ.u;rw [<-h2] at J ⊢;exact Qar J):P:=h
theorem ie{P:Prop}(h:P:=by show c.lc.i<c.lc.i+l;omega):P:=h
theorem pQ{P:Prop}(h:P:=by have:=j.u;have:=HX.u;have:=Nat.two_pow_pos (VF k).2;omega):P:=h
theorem gg{P:Prop}(h:P:=by have:=f.u;simp;omega):P:=h
theorem mM{P:Prop}(h:P:=by rw [<-s];exact (Below.refl _ _).alloc (Nat.le_refl _) _):P:=h
theorem eP{P:Prop}(h:P:=by have:=E.u;omega):P:=h
theorem sd{P:Prop}(h:P:=by unfold Qs;rw [if_neg H,if_neg J,if_pos h2,if_pos h15,hi]):P:=h
theorem ke{P:Prop}(h:P:=by have:=E.u;show B<=w.heap.size;omega):P:=h
theorem mO{P:Prop}(h:P:=by have:=HO.u;rw [e,List.take_length] at this;exact this):P:=h
theorem pC{P:Prop}(h:P:=by rw [h4,List.length_append,List.length_drop];exact hL):P:=h
theorem dX{P:Prop}(h:P:=by simp [I]):P:=h
theorem sJ{P:Prop}(h:P:=by show ¬QbD (field (bnum A) 0 16)=true;rw [J];decide):P:=h
theorem eI{P:Prop}(h:P:=by simpa using h):P:=h
theorem d9{P:Prop}(h:P:=by cases hv):P:=h
theorem gX{P:Prop}(h:P:=by simp [Act.eval,Act.put]):P:=h
theorem fY{P:Prop}(h:P:=by have:=L.u.lt;omega):P:=h
theorem fj{P:Prop}(h:P:=by simp;exact hne):P:=h
theorem ld{P:Prop}(h:P:=by simpa using fun e=>hF.pq e.symm):P:=h
theorem sY{P:Prop}(h:P:=by simp [results,Tryz.results14,go_sem,r0,r1,r2,r3]):P:=h
theorem ia{P:Prop}(h:P:=by show c.lc.i+3<=_;omega):P:=h
theorem iu{P:Prop}(h:P:=by have:=hne _ e.symm;omega):P:=h
theorem gi{P:Prop}(h:P:=by cases e;exact hF.bp):P:=h
theorem sr{P:Prop}(h:P:=by simp [results,Tryz.results12,go_sem,y0,F,y2,y3]):P:=h
theorem lh{P:Prop}(h:P:=by simpa using fun e=>h.zp e.symm):P:=h
theorem mf{P:Prop}(h:P:=by first|exact L9.u|exact L9.u.drew):P:=h
theorem oT{P:Prop}(h:P:=by have:=HS.u;show _=Qay q aft c.st;rw [this];rfl):P:=h
theorem eY{P:Prop}(h:P:=by simp [upE,VE]):P:=h
theorem sB{P:Prop}(h:P:=by show ¬QbD (field (bnum zs) 0 16)=true;exact l):P:=h
theorem gH{P:Prop}(h:P:=by simp [Value.ownBlock]):P:=h
theorem ip{P:Prop}(h:P:=by show c.lc.i+l=_;rw [h2]):P:=h
theorem lQ{P:Prop}(h:P:=by show 0+16<=8*zs.length;omega):P:=h
theorem mj{P:Prop}(h:P:=by have:=Q.size;simp at this;omega):P:=h
theorem jj{P:Prop}(h:P:=by rw [<-E];simp [go_sem]):P:=h
theorem pY{P:Prop}(h:P:=by simp [results,Tryz.results81,go_sem,y0,F,y2]):P:=h
theorem qR{P:Prop}(h:P:=by simp [results,Tryz.results13,go_sem,y0,F,y2]):P:=h
theorem qZ{P:Prop}(h:P:=by simp [results,Tryz.results84,go_sem,y0,F,y2]):P:=h
theorem so{P:Prop}(h:P:=by simp [results,Tryz.results11,go_sem,y0,F,y2]):P:=h
theorem s4{P:Prop}(h:P:=by intro k e e2;simp at e;simp [Qt] at e2;omega):P:=h
theorem jZ{P:Prop}(h:P:=by show _<=_;unfold maxLen;omega):P:=h
theorem kv{P:Prop}(h:P:=by rw [List.length_append];omega):P:=h
theorem sF{P:Prop}(h:P:=by show out.length+0<=0+100000;have:=h.ob;omega):P:=h
theorem fh{P:Prop}(h:P:=by rw [QC];omega):P:=h
theorem je{P:Prop}(h:P:=by have:=(Z k e).2;omega):P:=h
theorem nG{P:Prop}(h:P:=by simp [results,Tryz.results180,go_sem,flt]):P:=h
theorem nK{P:Prop}(h:P:=by simp [results,Tryz.results178,go_sem,flt]):P:=h
theorem nM{P:Prop}(h:P:=by simp [results,Tryz.results149,go_sem,flt]):P:=h
theorem nQ{P:Prop}(h:P:=by simp [results,Tryz.results199,go_sem,flt]):P:=h
theorem nS{P:Prop}(h:P:=by simp [results,Tryz.results206,go_sem,flt]):P:=h
theorem oI{P:Prop}(h:P:=by simp [results,Tryz.results147,go_sem,flt]):P:=h
theorem oK{P:Prop}(h:P:=by simp [results,Tryz.results105,go_sem,flt]):P:=h
theorem oL{P:Prop}(h:P:=by simp [results,Tryz.results207,go_sem,flt]):P:=h
theorem oP{P:Prop}(h:P:=by simp [results,Tryz.results195,go_sem,flt]):P:=h
theorem oX{P:Prop}(h:P:=by simp [results,Tryz.results176,go_sem,flt]):P:=h
theorem iB{P:Prop}(h:P:=by have:=BW.u.lt;omega):P:=h
theorem qF{P:Prop}(h:P:=by simp [results,Tryz.results108,go_sem,flt]):P:=h
theorem rK{P:Prop}(h:P:=by simp [results,Tryz.results116,go_sem,flt]):P:=h
theorem rT{P:Prop}(h:P:=by simp [results,Tryz.results216,go_sem,flt]):P:=h
theorem r7{P:Prop}(h:P:=by simp [results,Tryz.results117,go_sem,flt]):P:=h
theorem nf{P:Prop}(h:P:=by simp [results,Tryz.results92,asAddr,B.u]):P:=h
theorem oq{P:Prop}(h:P:=by rw [World.frozen?_setCell];exact h.2.2.2 o):P:=h
theorem qC{P:Prop}(h:P:=by simp [results,Tryz.results74,go_sem,flt]):P:=h
theorem qH{P:Prop}(h:P:=by simp [results,Tryz.results75,go_sem,flt]):P:=h
theorem rL{P:Prop}(h:P:=by simp [results,Tryz.results77,go_sem,flt]):P:=h
theorem rO{P:Prop}(h:P:=by simp [results,Tryz.results204,go_sem,gF]):P:=h
theorem rP{P:Prop}(h:P:=by simp [results,Tryz.results214,go_sem,gF]):P:=h
theorem rW{P:Prop}(h:P:=by simp [results,Tryz.results78,go_sem,flt]):P:=h
theorem gc{P:Prop}(h:P:=by rw [hb];decide):P:=h
theorem jm{P:Prop}(h:P:=by rw [IntKind.wrap_i64];omega):P:=h
theorem mX{P:Prop}(h:P:=by rw [World.frozen?_setCell];exact h.free i):P:=h
theorem qn{P:Prop}(h:P:=by have:=s.u ad e h0;have:=d _ he.symm;omega):P:=h
theorem qo{P:Prop}(h:P:=by show (zs++[x]).length=k+1;simp;exact HL.u):P:=h
theorem kM{P:Prop}(h:P:=by rw [IntKind.wrap_u32];omega):P:=h
theorem kW{P:Prop}(h:P:=by simp at e;exact .inr e.symm):P:=h
theorem rN{P:Prop}(h:P:=by simp [results,Tryz.results77,go_sem,gF]):P:=h
theorem gu{P:Prop}(h:P:=by simp [List.getD,hi]):P:=h
theorem te{P:Prop}(h:P:=by show _=_;rw [<-d.u];simp [vmf,m0,m1,m2]):P:=h
theorem jQ{P:Prop}(h:P:=by unfold alP;rw [if_pos rfl]):P:=h
theorem gj{P:Prop}(h:P:=by simpa using hb):P:=h
theorem gy{P:Prop}(h:P:=by unfold wrap64;omega):P:=h
theorem nP{P:Prop}(h:P:=by simp [results,Tryz.results199,go_sem]):P:=h
theorem oH{P:Prop}(h:P:=by simp [results,Tryz.results182,go_sem]):P:=h
theorem oS{P:Prop}(h:P:=by obtain ⟨W,p,c,J,_⟩:=m.rg;exact J.lt):P:=h
theorem oU{P:Prop}(h:P:=by simp [results,Tryz.results176,go_sem]):P:=h
theorem pb{P:Prop}(h:P:=by obtain ⟨W,p,c,J,_⟩:=h.rg;exact J.lt):P:=h
theorem pX{P:Prop}(h:P:=by intro e;have:=S.u.base _ e.symm;omega):P:=h
theorem ql{P:Prop}(h:P:=by intro g e;simp at e;exact .inr e.symm):P:=h
theorem qx{P:Prop}(h:P:=by rw [List.length_append,av.u];simp;omega):P:=h
theorem iK{P:Prop}(h:P:=by rw [<-HL.u];decide):P:=h
theorem rE{P:Prop}(h:P:=by rw [<-b,List.length_append];simp;omega):P:=h
theorem iM{P:Prop}(h:P:=by simpa using hF.zq):P:=h
theorem iP{P:Prop}(h:P:=by simpa using hF.zp):P:=h
theorem iQ{P:Prop}(h:P:=by cases e;exact hF.bq):P:=h
theorem rI{P:Prop}(h:P:=by obtain ⟨W,p,c,J,_⟩:=P.rg;exact J.lt):P:=h
theorem sP{P:Prop}(h:P:=by show _=_;rw [<-o.u];simp [k0,k1,k2,k3]):P:=h
theorem th{P:Prop}(h:P:=by simp [results,Tryz.results211,go_sem]):P:=h
theorem lY{P:Prop}(h:P:=by have:=(h4 k e).2.2;omega):P:=h
theorem ow{P:Prop}(h:P:=by simp [results,Tryz.results45,go_sem]):P:=h
theorem ky{P:Prop}(h:P:=by rw [h2,h6.2.2];exact hb):P:=h
theorem pL{P:Prop}(h:P:=by simp [results,Tryz.results68,go_sem]):P:=h
theorem k8{P:Prop}(h:P:=by show _=_;rw [<-HL.u];rfl):P:=h
theorem lr{P:Prop}(h:P:=by show (0:Nat)≠10;omega):P:=h
theorem iV{P:Prop}(h:P:=by have:=hW.s16;omega):P:=h
theorem jd{P:Prop}(h:P:=by have:=b2 k e;omega):P:=h
theorem sX{P:Prop}(h:P:=by have:=d.u.gN.1;have:=d.u.gN.2.1;omega):P:=h
theorem gM{P:Prop}(h:P:=by have:=h.most;omega):P:=h
theorem fg{P:Prop}(h:P:=by rw [<-hs]):P:=h
theorem p6{P:Prop}(h:P:=by have:=S.u.sm.lt;have:=aW.u;simp;omega):P:=h
theorem rF{P:Prop}(h:P:=by rw [<-b,List.length_append,QN];omega):P:=h
theorem iU{P:Prop}(h:P:=by split at e<;>omega):P:=h
theorem sR{P:Prop}(h:P:=by simp [results,Tryz.results4,go_sem]):P:=h
theorem jC{P:Prop}(h:P:=by unfold QcO;rw [hrep];rfl):P:=h
theorem jD{P:Prop}(h:P:=by unfold Qej;rw [hrep];rfl):P:=h
theorem jE{P:Prop}(h:P:=by unfold QeU;rw [hrep];rfl):P:=h
theorem lx{P:Prop}(h:P:=by have:(11:Nat)=0:=e;omega):P:=h
theorem lE{P:Prop}(h:P:=by show (7:Nat)<=9;omega):P:=h
theorem lG{P:Prop}(h:P:=by show (8:Nat)<=9;omega):P:=h
theorem lP{P:Prop}(h:P:=by show ¬b.st<=15;omega):P:=h
theorem ep{P:Prop}(h:P:=by cases h):P:=h
theorem oJ{P:Prop}(h:P:=by have:=o.u;show B<=w.heap.size;omega):P:=h
theorem pg{P:Prop}(h:P:=by show c.lc.i<=c.lc.i+c.extra;omega):P:=h
theorem sx{P:Prop}(h:P:=by show (b.lc.i+7)/8*8+32<=_;exact M):P:=h
theorem qi{P:Prop}(h:P:=by rw [List.length_append] at hl;omega):P:=h
theorem f6{P:Prop}(h:P:=by simpa using I):P:=h
theorem kX{P:Prop}(h:P:=by rw [Qek,o.u];exact ab):P:=h
theorem r8{P:Prop}(h:P:=by have:=(Vh h.own k e).1;simp;omega):P:=h
theorem lF{P:Prop}(h:P:=by have:(7:Nat)=6:=e;omega):P:=h
theorem lH{P:Prop}(h:P:=by have:(8:Nat)=6:=e;omega):P:=h
theorem si{P:Prop}(h:P:=by show 8*K.length<=c.ic.lc.i+8;omega):P:=h
theorem lK{P:Prop}(h:P:=by have:=(d k e).2;omega):P:=h
theorem lS{P:Prop}(h:P:=by have:(2:Nat)=3:=e;omega):P:=h
theorem nX{P:Prop}(h:P:=by have:=E.u q e.symm;have:=o.u;omega):P:=h
theorem oM{P:Prop}(h:P:=by have:=an.1;simpa using this.symm):P:=h
theorem rR{P:Prop}(h:P:=by simpa using fun e=>b.u.zp e.symm):P:=h
theorem rZ{P:Prop}(h:P:=by cases am<;>simp [Value.ownBlock]):P:=h
theorem lJ{P:Prop}(h:P:=by have:=(d k e).1;omega):P:=h
theorem sC{P:Prop}(h:P:=by show 0+16+32<=8*zs.length;omega):P:=h
theorem jc{P:Prop}(h:P:=by simp at A;omega):P:=h
theorem lg{P:Prop}(h:P:=by cases e;exact .inl rfl):P:=h
theorem ly{P:Prop}(h:P:=by rw [hb] at e;cases e):P:=h
theorem gQ{P:Prop}(h:P:=by show _<=_;omega):P:=h
theorem iG{P:Prop}(h:P:=by have:=HL.u;omega):P:=h
theorem ru{P:Prop}(h:P:=by simp [Value.ownBlock] at e;omega):P:=h
theorem sa{P:Prop}(h:P:=by simpa using fun e=>hF.zp e.symm):P:=h
theorem jt{P:Prop}(h:P:=by rw [aE];exact Qbv _):P:=h
theorem jO{P:Prop}(h:P:=by have:=B2.u.lt;omega):P:=h
theorem hH{P:Prop}(h:P:=by rw [Ve];decide):P:=h
theorem jW{P:Prop}(h:P:=by show c.st<=15;omega):P:=h
theorem gC{P:Prop}(h:P:=by simpa using n):P:=h
theorem gD{P:Prop}(h:P:=by rw [aq];omega):P:=h
theorem gU{P:Prop}(h:P:=by rw [VV];omega):P:=h
theorem gW{P:Prop}(h:P:=by simpa using H):P:=h
theorem iW{P:Prop}(h:P:=by simpa using Q):P:=h
theorem kl{P:Prop}(h:P:=by show c.st<=16;omega):P:=h
theorem lu{P:Prop}(h:P:=by have:c.ph=0:=e;omega):P:=h
theorem lO{P:Prop}(h:P:=by show 0+_<=_;omega):P:=h
theorem jk{P:Prop}(h:P:=by simp [Addr.add_lit]):P:=h
theorem g8{P:Prop}(h:P:=by cases ao<;>rfl):P:=h
theorem kA{P:Prop}(h:P:=by rw [j c h5];omega):P:=h
theorem f5{P:Prop}(h:P:=by rw [hK];rfl):P:=h
theorem fq{P:Prop}(h:P:=by rw [HN.u]):P:=h
theorem lf{P:Prop}(h:P:=by simpa using hF.hq):P:=h
theorem kj{P:Prop}(h:P:=by show 12<=16;omega):P:=h
theorem lj{P:Prop}(h:P:=by simpa using h.hz):P:=h
theorem lI{P:Prop}(h:P:=by show 8*0<=_;omega):P:=h
theorem gw{P:Prop}(h:P:=by rw [QcE];simp):P:=h
theorem jn{P:Prop}(h:P:=by have:=h.pos;omega):P:=h
theorem gZ{P:Prop}(h:P:=by cases e;omega):P:=h
theorem il{P:Prop}(h:P:=by simpa using S):P:=h
theorem kS{P:Prop}(h:P:=by have:=QcC d;omega):P:=h
theorem gV{P:Prop}(h:P:=by rw [e];omega):P:=h
theorem jx{P:Prop}(h:P:=by simpa using h2):P:=h
theorem k7{P:Prop}(h:P:=by show 0<_;omega):P:=h
theorem gx{P:Prop}(h:P:=by simp [hx]):P:=h
theorem fa{P:Prop}(h:P:=by rw [e]):P:=h
theorem ij{P:Prop}(h:P:=by simp at e;subst e;exact (b.u _ he).elim (fun h=>absurd (a.u _ h) dk) (fun h=>absurd h dk)):P:=h
theorem ej{P:Prop}(h:P:=by simp at e;exact .inr dk):P:=h
theorem lR{P:Prop}(h:P:=by unfold suP;rw [if_neg (fun x=>absurd (show (2:Int)=0 from x.1) dn)]):P:=h
theorem mF{P:Prop}(h:P:=by rw [World.cell?_setCell_other _ _ _ _ dr,World.cell?_setCell_other _ _ _ _ dr];exact c2):P:=h
theorem lv{P:Prop}(h:P:=by have:c.fr=true:=e;rw [af] at this;exact absurd this dn):P:=h
theorem pI{P:Prop}(h:P:=by rw [HZ.u,e,List.take_of_length_le (by rw [Ve];exact Nat.le_refl _)]):P:=h
theorem mR{P:Prop}(h:P:=by show _=_;rw [HF.u,Qdx,if_neg O,if_neg k0,if_neg k1,if_neg dk]):P:=h
theorem nv{P:Prop}(h:P:=by have:=z.u I (by rw [y.u];exact R);rw [A.u] at this;exact this):P:=h
theorem mE{P:Prop}(h:P:=by rw [World.cell?_setCell_other _ _ _ _ dr];exact c1):P:=h
theorem mT{P:Prop}(h:P:=by rw [Qcn,if_neg O,if_neg k0,if_neg k1,if_neg dk]):P:=h
theorem pA{P:Prop}(h:P:=by rw [M _ _ 1 2 dn,M _ _ 0 2 dn];exact h.c2):P:=h
theorem qs{P:Prop}(h:P:=by rw [Int.tmod_eq_emod_of_nonneg dk];exact aE):P:=h
theorem qr{P:Prop}(h:P:=by rw [Int.tdiv_eq_ediv_of_nonneg dk];exact W):P:=h
theorem oB{P:Prop}(h:P:=by rw [m];exact (Nat.min_eq_left dk).symm):P:=h
theorem pS{P:Prop}(h:P:=by rw [Int.tdiv_eq_ediv_of_nonneg dk];omega):P:=h
theorem qL{P:Prop}(h:P:=by unfold Qjk;rw [if_neg dk,if_neg dk]):P:=h
theorem sS{P:Prop}(h:P:=by unfold VE;rw [if_neg dk];exact h3):P:=h
theorem pz{P:Prop}(h:P:=by rw [M _ _ 0 1 dn];exact h.c1):P:=h
end Go.Proofs.YtgginbpmebgkcaaGreatDoor
