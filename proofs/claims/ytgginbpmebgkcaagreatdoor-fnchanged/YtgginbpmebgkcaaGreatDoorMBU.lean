import Derived.Test.YtgginbpmebgkcaaGreatDoorMBI
import Derived.Test.YtgginbpmebgkcaaGreatDoorMBT
namespace Go.Proofs.YtgginbpmebgkcaaGreatDoor
open Go.RowKit Go.Proofs.Tryz
set_option linter.unusedVariables false
set_option maxRecDepth 100000
set_option maxHeartbeats 25600000
section
theorem Rd.keep{w w':World}{p hB:Nat}{zs:List Int}{i:Nat}(h:Rd w p hB zs i)(hp:w'.heap[p]?=w.heap[p]?)(hb:w'.heap[hB]?=w.heap[hB]?):Rd w' p hB zs i:=by
 obtain ⟨hl,an,X,G,⟨a1,a2,q,a4,a5,a6⟩,J,h2,h3⟩:=h;refine ⟨hl,an,X,G,⟨(World.cell?_of_block (w:=w) hp).trans a1,(World.cell?_of_block (w:=w) hp).trans a2,(World.cell?_of_block (w:=w) hp).trans q,(World.frozen?_of_block (w:=w) hp).trans a4,(World.frozen?_of_block (w:=w) hp).trans a5,(World.frozen?_of_block (w:=w) hp).trans a6⟩,?_,h2,h3⟩;intro j hj;obtain ⟨b,U,rfl,I⟩:=J j hj;have e:b=hB:=h3.1 _ rfl;subst e;exact ⟨b,U,rfl,(World.cell?_of_block (w:=w) hb).trans I⟩
def gKH(w:World)(z:Nat)(am:Option Addr):Nat->Option Obj:=fun k=>if k=z\/Qt am=some k then w.heap[k]? else none
theorem Qoc{w:World}{z:Nat}{am:Option Addr}{k:Nat}{o:Obj}(h:gKH w z am k=some o):(k=z\/Qt am=some k)/\w.heap[k]?=some o:=by
 unfold gKH at h;by_cases e:k=z\/Qt am=some k
 ·rw [if_pos e] at h
  exact ⟨e,h⟩
 ·rw [if_neg e] at h
  cases h
theorem QeE{w:World}{z:Nat}{am:Option Addr}{k:Nat}(h:k=z\/Qt am=some k)(hk:k<w.heap.size):gKH w z am k≠none:=by
 unfold gKH;rw [if_pos h];simp [hk]
section
variable {z q p hB B : Nat} {zs : List Int} {w0 W : World} {c : GC}
theorem Qja(hF:QaX z q p hB B w0)(hz:Qh zs)(hzl:zs.length<=63)(hM:Vr z q p hB B zs w0 W c)(hb:c.bad=false)(h9:c.ph=9){wr:World}{C:Nat->Value}{am:Option Addr}{cm:Nat}{xs:List Value}(hh:GHm z q p hB B w0.heap.size zs W c wr C am cm xs){i':Nat}(hs:Qn zs c=.inl (gGo c i')){w1:World}(hd1:VO z q p hB zs i' c.hs C w1)(hg1:Gr2 W w1 p z):
  Calls prog 109 #[.pointer (some ⟨q,0,none⟩),.int .i64 32768,.slice none 0 0] w1 fun e w2=>∃v,e=.returned v/\Q3 (VD z q) (Vr z q p hB B zs w0) B (QT zs c) (.returned (.tuple #[v,.nilIface])) W w2:=by
 have A:=Qa6 hz hzl (hM.ok hb) hb hs;have D:=hh.sz;have Y:=hh.gr.trans hg1;have b:B<=W.heap.size:=Nat.le_trans hF.Bw hM.bel.size;have aj:=hg1.bel b hF.bp hF.bz;have G:=hd1.gz.lt;have L:=Y.size;have d:∀k,Qt am=some k->w0.heap.size<=k/\k<wr.heap.size:=Vh hh.own;have own1:w1.ownsRow w0.heap.size 28 8 (.slice am c.nm cm) c.nm xs:=Vw hh.own (fun k e=>Y.block k (d k e).2 lJ lJ);have a:∀(w2:World) (g:Nat) (n:Nat->Option Obj),w1.grownBy w2 (some q)->n z≠none->(∀k,Qt am=some k->n k≠none)->Q2 n q p hB g 32768 B zs (gF 78 z) w2 (gGo c i').ic->Q3 (VD z q) (Vr z q p hB B zs w0) B (QT zs c) (.returned (.tuple #[Qay q (gF 78 z) 7,.nilIface])) W w2:=by
  intro w2 g n ag K f hI;have ah:Below B W w2:=aj.grown ag (Nat.le_trans b aj.size) (fun k e=>iQ);have X:GIm z q p hB B w0.heap.size zs w2 (gGo c i') C am cm xs g n:=⟨hd1.gz.grown ag iM,hd1.c0,hh.mb,hh.m10,hh.m13,hh.m1,Vw own1 (fun k e=>ag.block k lK (by have:=(d k e).1;simp;omega)),K,f,hI⟩;refine .ok (QaU hz hzl (hM.ok hb) hb hs) ?_ ⟨hM.bel.trans ah,X.fin,fun _=>A.1,fun _ e=>?_,fun _ _=>⟨C,am,cm,xs,g,n,X⟩⟩ ah
  ·rw [Qor z q (gGo c i') hb rfl]
   rfl
  ·have:(10:Nat)<=9:=e
   omega
 cases hfr:c.fr with
 | true=>
  obtain ⟨Z,hN⟩:=hh.fre hfr;have ak:=hN.re Y hF.pq (fun e=>hF.zq e.symm);refine Calls.mono (Qei q p 32768 Z (gF 78 z) [] none 0 w1 ak dn dn (Q1.nil _ _) dr dn (fun ad e=>dx)) ?_;rintro e w2 ⟨g,rfl,P,hT,H,F,ag⟩;have hl:lastN 32768 ([]:List Int)=[]:=by simp [lastN]
  rw [hl] at hT;have ah:Below B w0 w2:=(hM.bel.trans aj).grown ag (Nat.le_trans b aj.size) (fun k e=>iQ);have h:=hd1.rd.lt;have r:w0.heap.size<=w1.heap.size:=by have:=hM.bel.size;omega
  have hI:=P.mem (KH:=gKH w2 z am) (B:=B) (s:=32768) hF.pq hF.hq (show g≠q by omega) (show g≠p by omega) (show g≠hB by omega) hF.gB hF.bq hF.bp (by have:=hF.bq;omega) hF.gh dk ⟨dn,dn⟩ (hd1.rd.grown ag ld lf) hT (hF.glob.below ah hF.gB) (fun k o e=>by
   obtain ⟨J,h2⟩:=Qoc e;refine ⟨h2,?_⟩;rcases J with rfl|J
   ·exact ⟨hF.zq,hF.zp,dk,fun e=>hF.hz e.symm⟩
   ·have:=d k J
    exact ⟨dk,dk,dk,dk⟩)
  refine ⟨_,rfl,a w2 g (gKH w2 z am) ag (QeE (.inl rfl) dk) (fun k e=>QeE (.inr e) lK) ?_⟩;have e:(gGo c i').ic=icA i' []:=by
   show ({Vl c.ic i' with st:=7,t:=[]}:IC)=icA i' [];rw [((hM.ok hb).fre hfr).2];rfl
  rw [e];exact hI
 | false=>
  obtain ⟨g,n,i0,K,f,hI⟩:=hh.use hfr;have R:=(hM.ok hb).u16 hfr dk;have hW:=(hM.ok hb).use hfr;have x:(Vl c.ic i0).lc.st=0:=hW.rest dk;have u:=hI.re (KH':=gKH w1 z am) (i':=i') (w:=w1) x (fun k=>k=z) (fun k e=>by subst e;exact ⟨K,Nat.le_trans hF.gB hF.bz⟩) L (fun k J h2 h3=>Y.block k J h2 h3) hd1.rd (fun k o e=>by
   obtain ⟨J,h2⟩:=Qoc e;refine ⟨.inl ?_,h2⟩;rcases J with rfl|J
   ·exact K
   ·exact f k J)
  refine Calls.mono (Qj9 q p hB g 32768 32768 B zs (gF 78 z) _ w1 u (by show 7<=c.ic.st;omega) dn dn) ?_;rintro e w2 ⟨g',rfl,aw,ag⟩;exact ⟨_,rfl,a w2 g' (gKH w1 z am) ag (QeE (.inl rfl) G) (fun k e=>QeE (.inr e) lK) aw⟩
theorem Qp4(hF:QaX z q p hB B w0)(hz:Qh zs)(hzl:zs.length<=63)(hM:Vr z q p hB B zs w0 W c)(hb:c.bad=false)(h9:c.ph=9):Calls prog 216 #[.pointer (some ⟨z,0,none⟩)] W fun e W'=>Q3 (VD z q) (Vr z q p hB B zs w0) B (QT zs c) e W W':=by
 refine dZ ?_;intro wr C am cm xs f;by_cases Q:hfl (c.fl:Nat) 2=true
 ·by_cases M:c.ic.lc.i+16<=8*zs.length
  ·by_cases hx:field (bnum zs) c.ic.lc.i 16=c.hs%65536
   ·have E:Qn zs c=.inl (gGo c (c.ic.lc.i+16)):=by
     unfold Qn;rw [if_neg dk,if_neg dk,if_neg dk,if_neg dk,if_neg dk,if_neg dk,if_neg dk,if_neg dk,if_neg dk,if_pos h9,if_pos Q,if_pos M,if_pos hx]
    refine Calls.mono (QlK f.hd f.mb Q M hx _ (fun w1 hd1 hg1=>Qja hF hz hzl hM hb h9 f E hd1 hg1)) ?_;rintro e W' ⟨v,rfl,hP⟩;exact hP
   ·have E:Qn zs c=.inr (4,Qy c):=by
     unfold Qn;rw [if_neg dk,if_neg dk,if_neg dk,if_neg dk,if_neg dk,if_neg dk,if_neg dk,if_neg dk,if_neg dk,if_pos h9,if_pos Q,if_pos M,if_neg hx]
    refine Calls.mono (Qm0 f.hd f.mb Q M hx) ?_;rintro e W' ⟨rfl,b,O⟩;exact lD
  ·have E:Qn zs c=.inr (2,Qy c):=by
    unfold Qn;rw [if_neg dk,if_neg dk,if_neg dk,if_neg dk,if_neg dk,if_neg dk,if_neg dk,if_neg dk,if_neg dk,if_pos h9,if_pos Q,if_neg M]
   refine Calls.mono (QnG f.hd f.mb Q M) ?_;rintro e W' ⟨rfl,b,O⟩;exact lD
 ·have E:Qn zs c=.inl (gGo c c.ic.lc.i):=by
   unfold Qn;rw [if_neg dk,if_neg dk,if_neg dk,if_neg dk,if_neg dk,if_neg dk,if_neg dk,if_neg dk,if_neg dk,if_pos h9,if_neg Q]
  refine Calls.mono (Qiu f.hd f.mb iW _ (fun w1 hd1 hg1=>Qja hF hz hzl hM hb h9 f E hd1 hg1)) ?_;rintro e W' ⟨v,rfl,hP⟩;exact hP
theorem GIm.inf{W':World}{Bm:Nat}{C:Nat->Value}{am:Option Addr}{cm:Nat}{xs:List Value}{g:Nat}{KH:Nat->Option Obj}(h:GIm z q p hB B Bm zs W c C am cm xs g KH)(c':GC)(hI':Q2 KH q p hB g 32768 B zs (gF 78 z) W' c'.ic)(e1:c'.fl=c.fl)(e2:c'.mm=c.mm)(e3:c'.st=c.st)(e4:c'.nm=c.nm):GIm z q p hB B Bm zs W' c' C am cm xs g KH:=by
 have hk:∀k,KH k≠none->W'.heap[k]?=W.heap[k]?:=fun k hn=>by
  cases e:KH k with
  | none=>exact absurd e hn
  | some o=>rw [hI'.kz e,h.im.kz e]
 exact ⟨h.gz.same (hk z h.kz),h.c0,by rw [e1];exact h.mb,by rw [e2];exact h.m10,by rw [e3];exact h.m13,by rw [e4];exact h.m1,by rw [e4];exact Vw h.own (fun k e=>hk k (h.ka k e)),h.kz,h.ka,hI'⟩
theorem Qnc(hF:QaX z q p hB B w0)(hz:Qh zs)(hzl:zs.length<=63)(hM:Vr z q p hB B zs w0 W c)(hb:c.bad=false){c':GC}(hs:Qn zs c=.inl c')(hp':10<=c'.ph){W':World}{C:Nat->Value}{am:Option Addr}{cm:Nat}{xs:List Value}{g:Nat}{KH:Nat->Option Obj}(hG:GIm z q p hB B w0.heap.size zs W' c' C am cm xs g KH)(hb':Below B W W'){v:Value}(hv:v=Qa4 (VD z q) c'):Q3 (VD z q) (Vr z q p hB B zs w0) B (QT zs c) (.returned (.tuple #[v,.nilIface])) W W':=by
 have A:=Qa6 hz hzl (hM.ok hb) hb hs;exact .ok (QaU hz hzl (hM.ok hb) hb hs) hv ⟨hM.bel.trans hb',hG.fin,fun _=>A.1,fun _ e=>absurd e dk,fun _ _=>⟨C,am,cm,xs,g,KH,hG⟩⟩ hb'
theorem QfP(hF:QaX z q p hB B w0)(hM:Vr z q p hB B zs w0 W c)(hb:c.bad=false){k:Int}(hs:Qn zs c=.inr (k,Qy c)){W':World}{C:Nat->Value}{am:Option Addr}{cm:Nat}{xs:List Value}{g:Nat}{KH:Nat->Option Obj}(hG:GIm z q p hB B w0.heap.size zs W c C am cm xs g KH){ic':IC}(hI':Q2 KH q p hB g 32768 B zs (gF 78 z) W' ic')(ho:ic'.u=c.ic.u)(hb':Below B W W'){v:Value}:Q3 (VD z q) (Vr z q p hB B zs w0) B (QT zs c) (.returned (.tuple #[v,flt k])) W W':=by
 have hE:QcR z q B W' {c with ic:=ic'}:=(hG.inf {c with ic:=ic'} hI' rfl rfl rfl rfl).fin;obtain ⟨oa,X,J,h2,h3⟩:=hE.o30;have r:QcR z q B W' (Qy c):=⟨hE.q1,hE.qf,⟨oa,X,by show _=some (Value.slice oa c.ic.u.length X);rw [<-ho];exact J,by show Qi _ _ _ _ _ c.ic.u;rw [<-ho];exact h2,h3⟩,hE.z0,hE.z1,hE.z10⟩;exact .no (Qbm hs) ⟨hM.bel.trans hb',r,fun e=>dx,fun e=>dx,fun e=>dx⟩ hb'
theorem g10{zs:List Int}{c:GC}(h:c.ph=10):Qn zs c=(if c.ic.st<=15 then
   match Qq 32768 zs c.ic with
   | .inl i'=>.inl {c with ic:=i'}
   | .inr (k,_)=>.inr (k,Qy c)
  else if (c.ic.lc.i+7)/8*8+32<=8*zs.length then
   if field (bnum zs) ((c.ic.lc.i+7)/8*8) 32=crcU 0 (c.ic.u.drop c.st) then .inl {c with ph:=11,ic:=Vl c.ic ((c.ic.lc.i+7)/8*8+32)}
   else .inr (4,Qy c)
  else .inr (2,Qy c)):=by
 unfold Qn;rw [if_neg dk,if_neg dk,if_neg dk,if_neg dk,if_neg dk,if_neg dk,if_neg dk,if_neg dk,if_neg dk,if_neg dk,if_pos h];rfl
theorem Qqz(hF:QaX z q p hB B w0)(hz:Qh zs)(hzl:zs.length<=63)(hM:Vr z q p hB B zs w0 W c)(hb:c.bad=false)(h10:c.ph=10)(h15:c.ic.st<=15):Calls prog (ifn c.ic.st) #[.pointer (some ⟨q,0,none⟩)] W fun e W'=>Q3 (VD z q) (Vr z q p hB B zs w0) B (QT zs c) e W W':=by
 obtain ⟨C,am,cm,xs,g,n,X⟩:=hM.hi hb dk;have A:=hM.ok hb;have af:c.fr=false:=by
  cases hf:c.fr with
  | true=>have:=(A.fre hf).1;omega
  | false=>rfl
 have hW:=A.use af;refine Calls.mono (QeR q p hB g 32768 B zs (gF 78 z) c.ic W X.im hW h15 hz dk) ?_;rintro e W' ⟨hy,j⟩;cases hi:Qq 32768 zs c.ic with
 | inl y=>
  obtain ⟨rfl,h,f⟩:=hy y hi;have E:Qn zs c=.inl {c with ic:=y}:=by rw [g10 h10,if_pos h15,hi]
  exact Qnc hF hz hzl hM hb E (by show 10<=c.ph;omega) (X.inf {c with ic:=y} h rfl rfl rfl rfl) f (Qor z q {c with ic:=y} hb h10).symm
 | inr kc=>
  obtain ⟨k,y⟩:=kc;obtain ⟨v,rfl,h,f⟩:=j k y hi;have E:Qn zs c=.inr (k,Qy c):=by rw [g10 h10,if_pos h15,hi]
  exact QfP hF hM hb E X h (Qdj hi) f
theorem QqN(hF:QaX z q p hB B w0)(hz:Qh zs)(hzl:zs.length<=63)(hM:Vr z q p hB B zs w0 W c)(hb:c.bad=false)(h10:c.ph=10)(h15:¬c.ic.st<=15):Calls prog 78 #[.pointer (some ⟨z,0,none⟩)] W fun e W'=>Q3 (VD z q) (Vr z q p hB B zs w0) B (QT zs c) e W W':=by
 obtain ⟨C,am,cm,xs,g,n,X⟩:=hM.hi hb dk;have A:=hM.ok hb;have P:=A.ob;have t:=(X.gz.c 0 dn).trans (congrArg some X.c0);have r:=(X.gz.c 13 dn).trans (congrArg some X.m13);by_cases M:(c.ic.lc.i+7)/8*8+32<=8*zs.length
 ·refine Calls.mono (Qod z q p hB g 32768 B c.st zs (gF 78 z) c.ic W X.im t r hF.zp hz dk M A.st.1 dk A.oo) ?_
  rintro e W' ⟨rfl,h,f⟩;by_cases I:field (bnum zs) ((c.ic.lc.i+7)/8*8) 32=crcU 0 (c.ic.u.drop c.st)
  ·have E:Qn zs c=.inl {c with ph:=11,ic:=Vl c.ic ((c.ic.lc.i+7)/8*8+32)}:=by rw [g10 h10,if_neg h15,if_pos M,if_pos I]
   rw [if_pos I,if_pos I];exact Qnc hF hz hzl hM hb E (by show (10:Nat)<=11;omega) (X.inf {c with ph:=11,ic:=Vl c.ic ((c.ic.lc.i+7)/8*8+32)} h rfl rfl rfl rfl) f (QkA z q {c with ph:=11,ic:=Vl c.ic ((c.ic.lc.i+7)/8*8+32)} hb (by show (11:Nat)≠10;omega)).symm
  ·have E:Qn zs c=.inr (4,Qy c):=by rw [g10 h10,if_neg h15,if_pos M,if_neg I]
   rw [if_neg I,if_neg I];exact QfP hF hM hb E X h rfl f
 ·have E:Qn zs c=.inr (2,Qy c):=by rw [g10 h10,if_neg h15,if_neg M]
  refine Calls.mono (QoV z q p hB g 32768 B zs (gF 78 z) c.ic W X.im t hF.zp dk M) ?_;exact lL
theorem g11{zs:List Int}{c:GC}(h:c.ph=11):Qn zs c=(if c.ic.lc.i+32<=8*zs.length then
   if field (bnum zs) c.ic.lc.i 32=c.ic.u.length-c.st then .inl ⟨0,0,0,c.xs,0,c.ic.u.length,c.nm+1,c.fr,Vl c.ic (c.ic.lc.i+32),false⟩
   else .inr (4,Qy c)
  else .inr (2,Qy c)):=by
 unfold Qn;rw [if_neg dk,if_neg dk,if_neg dk,if_neg dk,if_neg dk,if_neg dk,if_neg dk,if_neg dk,if_neg dk,if_neg dk,if_neg dk,if_pos h]
theorem Qq4(C:Nat->Value)(v:Value)(n:Nat):upE C v n 0=C 0/\upE C v n 1=v/\GMb (upE C v n) 0/\upE C v n 7=.slice none 0 0/\upE C v n 8=.slice none 0 0/\upE C v n 10=.int .i64 0/\upE C v n 12=.int .u32 0/\upE C v n 13=.int .i64 (n:Nat):=by
 refine ⟨eY,eY,⟨0,0,0,0,none,none,none,0,0,0,0,0,0,?_⟩,eY,eY,eY,eY,eY⟩;simp [upE,VE]
theorem Qpa(hF:QaX z q p hB B w0)(hz:Qh zs)(hzl:zs.length<=63)(hM:Vr z q p hB B zs w0 W c)(hb:c.bad=false)(h11:c.ph=11):Calls prog 117 #[.pointer (some ⟨z,0,none⟩)] W fun e W'=>Q3 (VD z q) (Vr z q p hB B zs w0) B (QT zs c) e W W':=by
 obtain ⟨C,am,cm,xs,g,n,X⟩:=hM.hi hb dk;have A:=hM.ok hb;have P:=A.ob;have bo:=A.nm;have b:w0.heap.size<=W.heap.size:=hM.bel.size;have t:=(X.gz.c 0 dn).trans (congrArg some X.c0);have r:=(X.gz.c 13 dn).trans (congrArg some X.m13);have af:c.fr=false:=by
  cases hf:c.fr with
  | true=>have:=(A.fre hf).1;omega
  | false=>rfl
 have R:=A.u16 af dk;have hW:=A.use af;have x:c.ic.lc.st=0:=hW.rest dk;by_cases M:c.ic.lc.i+32<=8*zs.length
 ·by_cases hx:field (bnum zs) c.ic.lc.i 32=c.ic.u.length-c.st
  ·have E:Qn zs c=.inl ⟨0,0,0,c.xs,0,c.ic.u.length,c.nm+1,c.fr,Vl c.ic (c.ic.lc.i+32),false⟩:=by rw [g11 h11,if_pos M,if_pos hx]
   refine Calls.mono (Qot z q p hB g 32768 B w0.heap.size c.st c.fl c.nm cm zs (gF 78 z) c.ic C am xs W X.im X.gz X.c0 X.mb X.m1 X.own dk hF.zw hF.qw hF.pw hF.hw b X.m13 hF.zp hF.zq hF.hz hz dk M A.st.1 dk hx) ?_;rintro e W' ⟨v,w3,rfl,m,o3,t3,S,s3,Z,L,g',l,u,hZ,hO,aa,U,o4,Q,T,H⟩;have V:v=gF 77 z:=by injection L
   subst V;have d:=Vh X.own;have N:=hF.zw;have D:=hF.qw;have F:=hF.pw;have G:=hF.hw;have s:∀k,k<W.heap.size->k≠p->¬(k=z\/Qt am=some k)->W'.heap[k]?=W.heap[k]?:=fun k J h2 h3=>by
    rw [not_or] at h3;rw [H k dk h3.1 h3.2];exact Z k J h2 h3.1
   have an:∀k,k<w0.heap.size->Qt am≠some k:=fun k J e=>lJ
   have f:Below B W W':=by
    have J:=hF.Bw;refine ⟨o4.trans o3,Q.trans t3,T.trans S,dk,fun k hk=>s k dk (by have:=hF.bp;omega) ?_⟩;rintro (h2|h2)
    ·have:=hF.bz;omega
    ·exact an k dk h2
   have j:Rd W' p hB zs (c.ic.lc.i+32):=m.keep (H p dk (fun e=>hF.zp e.symm) (an p F)) (H hB dk hF.hz (an hB G));obtain ⟨K,e1,e2,e7,e8,ax,az,aK⟩:=Qq4 (VE C 9 (.int .i64 ((c.ic.u.length-c.st:Nat):Int))) (.slice (some ⟨g',0,none⟩) (c.nm+1) l) c.ic.u.length;have ah:W'.heap[q]?=W.heap[q]?:=s q dk hF.pq (by rintro (h2|h2);exact hF.zq h2.symm;exact an q D h2);have hI:=X.im.re (KH':=fun k=>if k=z\/k=g' then W'.heap[k]? else none) (i':=c.ic.lc.i+32) (w:=W') x (fun k=>k=z\/Qt am=some k) (fun k e=>by
    rcases e with rfl|e
    ·exact ⟨X.kz,Nat.le_trans hF.gB hF.bz⟩
    ·exact ⟨X.ka k e,by have:=(d k e).1;have:=hF.gB;have:=hF.Bw;omega⟩) dk s j (fun k o e=>by
    by_cases J:k=z\/k=g'
    ·rw [if_pos J] at e
     refine ⟨?_,e⟩;rcases J with rfl|rfl
     ·exact .inl X.kz
     ·rcases aa with h2|h2
      ·exact .inl (X.ka _ h2)
      ·exact .inr dk
    ·rw [if_neg J] at e
     cases e)
   have I:w0.heap.size<=g'/\g'<W'.heap.size:=Vh hO g' rfl;have y:=hZ.lt;have O:upE (VE C 9 (.int .i64 ((c.ic.u.length-c.st:Nat):Int))) (.slice (some ⟨g',0,none⟩) (c.nm+1) l) c.ic.u.length 0=.pointer (some ⟨q,0,none⟩):=K.trans ((Ql _ _ dn).trans X.c0);have hm:W'.cell? ⟨q,0,none⟩=some (.pointer (some ⟨p,0,none⟩)):=(World.cell?_of_block (w:=W) (a:=⟨q,0,none⟩) ah).trans X.im.lm.c0;refine QaS hF hz hzl hM hb E (by show (0:Nat)<=9;omega) rfl (wr:=W') (C:=upE (VE C 9 (.int .i64 ((c.ic.u.length-c.st:Nat):Int))) (.slice (some ⟨g',0,none⟩) (c.nm+1) l) c.ic.u.length) (am:=some ⟨g',0,none⟩) (cm:=l) (xs:=u) ⟨⟨hZ,O,az,by show (0:Nat)<4294967296;omega,hF.zp,hF.hz,hm,hF.pq,fun e=>hF.zq e.symm,j,?_,hz,dk⟩,Gr2.refl _ _ _,e2,ax,fun e=>?_,aK,e1,hO,fun _=>⟨none,0,[],e7,Qi.nil _ _ _,lI⟩,fun _=>⟨none,0,[],e8,Qi.nil _ _ _,lI,fun _=>⟨rfl,rfl,rfl⟩⟩,⟨N,D,F,G,dk⟩,fun e=>?_,fun _=>⟨g,_,c.ic.lc.i+32,?_,fun k e=>?_,hI⟩⟩ f rfl
   ·show (c.ic.lc.i+32)%8=0
    have:=A.al dk;omega
   ·have:(0:Nat)=6:=e
    omega
   ·have:c.fr=true:=e
    rw [af] at this;cases this
   ·show (if z=z\/z=g' then W'.heap[z]? else none)≠none
    rw [if_pos (.inl rfl)];simp [y]
   ·have e2:g'=k:=by simpa [Qt] using e
    subst e2;show (if g'=z\/g'=g' then W'.heap[g']? else none)≠none;rw [if_pos (.inr rfl)];simp [I.2]
  ·have E:Qn zs c=.inr (4,Qy c):=by rw [g11 h11,if_pos M,if_neg hx]
   refine Calls.mono (QlD z q p hB g 32768 B c.st zs (gF 78 z) c.ic W X.im t r hF.zp hz dk M A.st.1 dk hx) ?_;exact lL
 ·have E:Qn zs c=.inr (2,Qy c):=by rw [g11 h11,if_neg M]
  refine Calls.mono (QnX z q p hB g 32768 B zs (gF 78 z) c.ic W X.im t dk M) ?_;exact lL
end
end
end Go.Proofs.YtgginbpmebgkcaaGreatDoor
namespace Go.Proofs.YtgginbpmebgkcaaGreatDoor
open Go.RowKit Go.Proofs.Tryz
attribute [local go_sem ↓] Go.wp_at_zero Go.wp_at_succ
set_option linter.unusedVariables false
set_option maxRecDepth 100000
set_option maxHeartbeats 25600000
section
variable{z q B p hB g:Nat}{zs:List Int}{w0 w:World}{v0 v1 v2 v3:Value}
theorem QkM{c:GC}{f:Nat}{caps:Array Value}(h:VD z q c=some (f,caps)):c.bad=false/\((c.ph=10/\c.ic.st<=15/\f=ifn c.ic.st/\caps=#[.pointer (some ⟨q,0,none⟩)])\/(c.ph=10/\¬c.ic.st<=15/\f=78/\caps=#[.pointer (some ⟨z,0,none⟩)])\/(c.ph≠10/\f=gfn c.ph/\caps=#[.pointer (some ⟨z,0,none⟩)])):=by
 unfold VD at h;by_cases hb:c.bad=true
 ·rw [if_pos hb] at h;cases h
 rw [if_neg hb] at h;refine ⟨gj,?_⟩;split at h
 ·rename_i u
  split at h
  ·rename_i a
   injection h with h;injection h with e1 e2;exact .inl ⟨u,a,e1.symm,e2.symm⟩
  ·rename_i a
   injection h with h;injection h with e1 e2;exact .inr (.inl ⟨u,a,e1.symm,e2.symm⟩)
 ·rename_i u
  injection h with h;injection h with e1 e2;exact .inr (.inr ⟨u,e1.symm,e2.symm⟩)
theorem QqG(ph:Nat)(args:Array Value)(W:World):Sem.run prog (callFunc (gfn ph) args) W=.ok (.enter (gfn ph) args) W:=by
 unfold gfn;repeat' split
 ·exact Qqr args W
 ·exact Qqf args W
 ·exact QqK args W
 ·exact Qqx args W
 ·exact QqL args W
 ·exact QqI args W
 ·exact Qqe args W
 ·exact Qq5 args W
 ·exact QqB args W
 ·exact QqH args W
 ·exact Qpw args W
theorem Qk7(hF:QaX z q p hB B w0)(hz:Qh zs)(hzl:zs.length<=63)(c0:GC)(w:World)(hM:Vr z q p hB B zs w0 w c0)(hn:w.cell? ⟨q,1,none⟩=some (Qa4 (VD z q) c0)):
  Calls prog 36 #[.pointer (some ⟨q,0,none⟩)] w fun e w'=>Qhl (VD z q) (QT zs) (Vr z q p hB B zs w0) B c0 w e w':=by
 refine QkN q B (VD z q) (Vr z q p hB B zs w0) (QT zs) (gmu zs) hF.bq ?_ ?_ ?_ ?_ ?_ ?_ c0 w hM hn
 ·intro c f i h g W
  obtain ⟨_,⟨_,a,rfl,_⟩|⟨_,_,rfl,_⟩|⟨_,rfl,_⟩⟩:=QkM h
  ·exact QnL _ a g W
  ·exact Qpd g W
  ·exact QqG _ g W
 ·intro W c h
  exact ⟨h.fin.q1,h.fin.qf,(hF.glob.below h.bel hF.gB).g0⟩
 ·intro W c v h
  exact h.set hF v
 ·intro W Q c h hb
  exact h.below hF hb
 ·intro W c f i h b
  obtain ⟨hb,⟨u,a,rfl,rfl⟩|⟨u,a,rfl,rfl⟩|⟨u,rfl,rfl⟩⟩:=QkM h
  ·exact Qqz hF hz hzl b hb u a
  ·exact QqN hF hz hzl b hb u a
  ·have A:=b.ok hb
   have d:=A.ph;have an:c.ph=0\/c.ph=1\/c.ph=2\/c.ph=3\/c.ph=4\/c.ph=5\/c.ph=6\/c.ph=7\/c.ph=8\/c.ph=9\/c.ph=11:=dk;rcases an with e|e|e|e|e|e|e|e|e|e|e
   ·have hm:=A.mm.1 e
    have K:c.mm=0\/c.mm=1\/c.mm=2:=dk;rw [e];rcases K with j|L|a0
    ·exact Qo6 hF hz hzl b hb e j
    ·exact Qop hF hz hzl b hb e L
    ·exact QmG hF hz hzl b hb e a0
   ·rw [e];exact Qo7 hF hz hzl b hb e
   ·rw [e];exact Qnq hF hz hzl b hb e
   ·rw [e];exact Qrj hF hz hzl b hb e
   ·rw [e];exact Qr2 hF hz hzl b hb e
   ·rw [e];exact Qis hF hz hzl b hb e
   ·rw [e];exact Qh9 hF hz hzl b hb e
   ·rw [e];exact QoJ hF hz hzl b hb e
   ·rw [e];exact Qkd hF hz hzl b hb e
   ·rw [e];exact Qp4 hF hz hzl b hb e
   ·rw [e];exact Qpa hF hz hzl b hb e
 ·intro c c' _ h
  exact (QgA h).2
def QbG(k:Int)(c:GC):Int:=if k=2/\c.mm=0/\0<c.nm then 1 else k
theorem QmX(hF:QaX z q p hB B w0)(hz:Qh zs)(hzl:zs.length<=63)(c0:GC)(w:World)(hM:Vr z q p hB B zs w0 w c0)(hn:w.cell? ⟨q,1,none⟩=some (Qa4 (VD z q) c0)):
  Calls prog 38 #[.pointer (some ⟨z,0,none⟩)] w fun e w'=>∃k cf,e=.returned (.int .i64 (QbG k cf))/\Vo (VD z q) (QT zs) c0 k cf/\Vr z q p hB B zs w0 w' cf/\Below B w w':=by
 have r:=Qe<|Qk7 hF hz hzl c0 w hM hn
 have k0:=hM.fin.z0;obtain ⟨b,ho⟩:=hM.fin.q1;clear hM hn ho;go_enter func38,ntmps38;go_wp2_with fail;refine Calls.mono r.u ?_;rintro e w1 ⟨k,cf,rfl,hE,A,aj⟩;have HE:=Qe hE;have U:=Qe A;have o:=Qe aj;obtain ⟨am,cm,k1⟩:=A.fin.z1;have g:=A.fin.z10;clear hE A aj r k0;by_cases hk:k=2
 ·subst hk
  by_cases hm:cf.mm=0
  ·rw [hm] at g
   by_cases bo:0<cf.nm
   ·have HC:dm (QbG 2 cf=1):=if_pos ⟨rfl,hm,bo⟩
    clear hm;go_wp2_with fail;exact bodyPost_ret (v:=.int .i64 1) lM rfl ⟨2,cf,by rw [HC.u],HE.u,U.u,o.u⟩
   ·have HC:dm (QbG 2 cf=2):=if_neg (fun h=>bo h.2.2)
    have ca:cf.nm=0:=dk;rw [ca] at k1;clear hm bo ca;exact sq
  ·have hd:((cf.mm:Int) == 0)=false:=du
   have HC:dm (QbG 2 cf=2):=if_neg (fun h=>hm h.2.1);clear hm;exact sq
 ·have hd:(k == 2)=false:=by simpa using hk
  have HC:dm (QbG k cf=k):=if_neg (fun h=>hk h.1);clear hk;go_wp2_with fail;exact bodyPost_ret (v:=.int .i64 k) lM rfl ⟨k,cf,by rw [HC.u],HE.u,U.u,o.u⟩
structure QbJ(w:World)(g:Nat)(v0 v1 v2 v3:Value):Prop where
 c0:w.cell? ⟨g,0,none⟩=some v0
 c1:w.cell? ⟨g,1,none⟩=some v1
 c2:w.cell? ⟨g,2,none⟩=some v2
 c3:w.cell? ⟨g,3,none⟩=some v3
 f:∀k,w.frozen? ⟨g,k,none⟩=false
theorem Qd6(w:World)(v0 v1 v2 v3:Value)(t:TypeId):QbJ (w.alloc (.cells #[v0,v1,v2,v3] t)) w.heap.size v0 v1 v2 v3:=by
 refine ⟨?_,?_,?_,?_,fun k=>?_⟩<;>simp [go_sem]
theorem QbJ.below{w':World}(h:QbJ w g v0 v1 v2 v3)(hb:Below B w w')(hg:g<B):QbJ w' g v0 v1 v2 v3:=
 ⟨(hb.cell (p:=⟨g,0,none⟩) hg).trans h.c0,(hb.cell (p:=⟨g,1,none⟩) hg).trans h.c1,(hb.cell (p:=⟨g,2,none⟩) hg).trans h.c2,(hb.cell (p:=⟨g,3,none⟩) hg).trans h.c3,fun k=>(hb.frozen (p:=⟨g,k,none⟩) hg).trans (h.f k)⟩
theorem QbJ.set(h:QbJ w g v0 v1 v2 v3)(x0 x1 x2 x3:Value):
  QbJ ((((w.setCell ⟨g,0,none⟩ x0).setCell ⟨g,1,none⟩ x1).setCell ⟨g,2,none⟩ x2).setCell ⟨g,3,none⟩ x3) g x0 x1 x2 x3/\w.grownBy ((((w.setCell ⟨g,0,none⟩ x0).setCell ⟨g,1,none⟩ x1).setCell ⟨g,2,none⟩ x2).setCell ⟨g,3,none⟩ x3) (some g):=by
 have M:∀(W:World) (x:Value) (i j:Nat),i≠j->(W.setCell ⟨g,i,none⟩ x).cell? ⟨g,j,none⟩=W.cell? ⟨g,j,none⟩:=fun W x i j hij=>World.cell?_setCell_other _ _ _ _ dB
 refine ⟨⟨?_,?_,?_,?_,fun k=>?_⟩,?_⟩
 ·rw [M _ _ 3 0 dn,M _ _ 2 0 dn,M _ _ 1 0 dn,World.cell?_setCell_same _ _ _ h.c0]
 ·rw [M _ _ 3 1 dn,M _ _ 2 1 dn,World.cell?_setCell_same _ _ _ (u:=v1) pz]
 ·rw [M _ _ 3 2 dn,World.cell?_setCell_same _ _ _ (u:=v2) pA]
 ·rw [World.cell?_setCell_same _ _ _ (u:=v3) (by rw [M _ _ 2 3 dn,M _ _ 1 3 dn,M _ _ 0 3 dn];exact h.c3)]
 ·simp only [World.frozen?_setCell]
  exact h.f k
 ·exact Qj (Qj (Qj (Qf w ⟨g,0,none⟩ _) (Qf _ ⟨g,1,none⟩ _)) (Qf _ ⟨g,2,none⟩ _)) (Qf _ ⟨g,3,none⟩ _)
def gc0:GC:=⟨0,0,0,0,0,0,0,true,icA 0 [],false⟩
theorem Qfz(zs:List Int):GOK zs gc0:=by
 refine ⟨Nat.zero_le _,Nat.zero_le _,fun _=>rfl,⟨fun _=>by show (0:Nat)<=2;omega,fun e=>absurd rfl e⟩,⟨by show (0:Nat)<=31;omega,fun _=>rfl⟩,fun v hv=>d9,Nat.zero_le _,⟨Nat.le_refl _,fun _=>rfl⟩,Nat.le_refl _,fun _=>⟨Nat.zero_le _,rfl⟩,fun e=>dx,fun e=>dx,fun e=>?_,fun _ _=>rfl,fun e=>?_,fun _ _ e=>?_,fun _ _=>rfl⟩
 ·have:(0:Nat)=10:=e;omega
 ·have:(0:Nat)=11:=e;omega
 ·have:(0:Nat)=1:=e;omega
def Qr0(K:Int)(out:List Int)(nm:Nat)(e:Ending)(w w':World):Prop:=∃oa oc am cm U,e=.returned (.agg #[.int .i64 K,.slice oa out.length oc,.slice am nm cm,.int .i64 U])/\Qi 5 w.heap.size w' oa oc out/\Below w.heap.size w w'
theorem Ql5(ao:Option Addr)(cap:Nat)(zs:List Int)(w:World)(hr:Q1 w ao zs)(hnil:ao=none->zs.length=0/\cap=0)(hz:Qh zs)(hl:zs.length<=63)(hG:QfE w)(hMk:Qbq w):
  Calls prog 12 #[.slice ao zs.length cap] w fun e w'=>∃z q k cf,Vo (VD z q) (QT zs) gc0 k cf/\Qr0 (QbG k cf) cf.ic.u cf.nm e w w':=by
 have HR:=Qe hr;have W:=Qe hnil;have HZ:=Qe hz;have HG:=Qe hG;have o:=Qe hMk;have H:=hG.sz;have O:zs.length<=65536:=dk;have aY:decide ((zs.length:Int) > 65536)=false:=decide_eq_false dk;have b0:Below w.heap.size w (w.alloc (.cells #[.int .i64 0,.slice none 0 0,.slice none 0 0,.int .i64 0] 36)):=(Below.refl _ _).alloc (Nat.le_refl _) _;have B0:=Qe b0;have R0:=Qe<|Qd6 w (.int .i64 0) (.slice none 0 0) (.slice none 0 0) (.int .i64 0) 36
 have t:(w.alloc (.cells #[.int .i64 0,.slice none 0 0,.slice none 0 0,.int .i64 0] 36)).heap.size=w.heap.size+1:=dr;have NZ:=Qe<|Qeb (w.alloc (.cells #[.int .i64 0,.slice none 0 0,.slice none 0 0,.int .i64 0] 36))
 rw [t] at NZ;clear hr hnil hz hG hMk b0;go_enter func12,ntmps12;go_wp2_with fail;refine Calls.mono NZ.u ?_;rintro e w2 ⟨z,q,p,a1,c1,rfl,hZ,hN,hS,hO,N,D,ab,al,an,af,ag,hb⟩;have B2:=Qe<|B0.u.trans (hb.mono dk)
 have R2:=Qe<|R0.u.below hb dk
 have N2:=Qe hN;have Z2:=Qe hZ;have B:=hN.c0;have x:w2.cell? ⟨z,0,none⟩=some (.pointer (some ⟨q,0,none⟩)):=hZ.c 0 dn;have b:=Qe<|And.intro an (And.intro af ag)
 have FD:=Qe<|QiD p a1 ao c1 cap zs (w.heap.size+1) w2 hS hO dk dk an (HR.u.below B2.u) W.u O
 have aa:q<w2.heap.size:=dk;clear hN hZ hS hO an af ag hb B0 R0 NZ t;go_wp2_with fail;refine Calls.mono FD.u ?_;rintro e w3 ⟨rfl,⟨a2,c2,u,Q,m,j⟩,a0,ah⟩;have Z:w2.heap.size<=w3.heap.size:=ah.size;obtain ⟨a,G,P,ae,A,aj,C⟩:∃a,(∀ad,a2=some ad->ad.block=a)/\a≠p/\a≠q/\a≠z/\w.heap.size<=a/\a<w3.heap.size:=by
  cases a2 with
  | none=>exact ⟨w.heap.size,⟨(fun ad e=>dx),dk,dk,dk,Nat.le_refl _,dk⟩⟩
  | some ad=>
   exact sk
 refine sn ?_;intro L N3 I B3 G3;have K3:=o.u.below B3.u H;have F3:QaX z q p a (w.heap.size+1) w3:=⟨G3,K3,dk,dk,N,dk,dk,dk,dk,dk,ae,A,dk,dk,dk,dk,C⟩;have H3:GHm z q p a (w.heap.size+1) w3.heap.size zs w3 gc0 w3 (gC0 q) none 0 []:=⟨⟨I,rfl,rfl,by show (0:Nat)<4294967296;omega,dk,A,N3.c0,dk,dk,L,rfl,HZ.u,O⟩,Gr2.refl _ _ _,⟨0,0,0,0,none,none,none,0,0,0,0,0,0,rfl,rfl,rfl,rfl,rfl,rfl,rfl,rfl⟩,rfl,fun _=>rfl,rfl,rfl,⟨rfl,.inl ⟨rfl,rfl⟩⟩,fun _=>⟨none,0,[],rfl,Qi.nil _ _ _,Nat.le_refl _⟩,fun _=>⟨none,0,[],rfl,Qi.nil _ _ _,Nat.le_refl _,fun _=>⟨rfl,rfl,rfl⟩⟩,⟨dk,dk,dk,C,Nat.le_refl _⟩,fun _=>⟨_,N3⟩,fun e=>dx⟩;have M3:Vr z q p a (w.heap.size+1) zs w3 w3 gc0:=⟨Below.refl _ _,H3.fin (Qfz zs),fun _=>Qfz zs,fun _ _=>⟨_,_,_,_,_,H3⟩,fun _ e=>by have:(10:Nat)<=0:=e;omega⟩;have R3:=Qe<|R2.u.below ah (Nat.lt_succ_self _)
 have aV:z<w3.heap.size:=dk;have r:=Qe<|QmX F3 HZ.u hl gc0 w3 M3 (by rw [N3.c1,QkA z q gc0 rfl lr];rfl)
 clear u Q m j a0 ah G L N3 I G3 K3 M3 H3 F3 N2 Z2 B2 R2 b FD B x P ae A aj C;go_wp2_with fail;refine Calls.mono r.u ?_;rintro e w4 ⟨k,cf,rfl,hE,hM,T⟩;have y:=Qe<|B3.u.trans (T.mono (Nat.le_succ _))
 have R4:=Qe<|R3.u.below T (Nat.lt_succ_self _)
 have HE:=Qe hE;obtain ⟨oa,X,l,R,_⟩:=hM.fin.o30;obtain ⟨am,cm,z1⟩:=hM.fin.z1;have av:=hM.fin.z0;have ar:w3.heap.size<=w4.heap.size:=T.size;have S:=Qe R;have V:=Qe<|Qi.based R
 obtain ⟨n,M⟩:=dt cf.ic.u.length;have HN:=Qe M;rw [M] at l;obtain ⟨r0,r1,r2,r3,rf⟩:=R4.u;refine dY ?_;intro aE aC aD;have cT:=rf 3;obtain ⟨K,hK⟩:=dt (QbG k cf);have HK:=Qe hK;rw [hK];clear hE r B3 R3 T hM R rf M hK;by_cases au:K=1
 ·subst au
  have E:=Qe<|R4.u.set (.int .i64 1) (.slice oa n X) (.slice am cf.nm cm) (.int .i64 (zs.length:Nat))
  refine iX ?_;intro g Y;clear S V;go_upto_region 8 with fail;go_region
  go_wp2_with fail;obtain ⟨⟨y0,F,y2,y3,_⟩,_⟩:=E.u;exact bodyPost_ret (v:=.agg #[.int .i64 1,.slice oa n X,.slice am cf.nm cm,.int .i64 (zs.length:Nat)]) sr rfl ⟨z,q,k,cf,HE.u,oa,X,am,cm,_,by rw [HK.u,HN.u],Y.u.below (Below.refl _ _).drew,g.u.drew⟩
 ·have aU:(K != 1)=true:=by simp [au]
  have E:=Qe<|R4.u.set (.int .i64 K) (.slice oa n X) (.slice am cf.nm cm) (.int .i64 0)
  refine iX ?_;intro g Y;clear S V au;go_upto_region 7 with fail;go_region
  go_wp2_with fail;obtain ⟨⟨y0,F,y2,y3,_⟩,_⟩:=E.u;exact bodyPost_ret (v:=.agg #[.int .i64 K,.slice oa n X,.slice am cf.nm cm,.int .i64 0]) sr rfl ⟨z,q,k,cf,HE.u,oa,X,am,cm,_,by rw [HK.u,HN.u],Y.u.below (Below.refl _ _).drew,g.u.drew⟩
end
end Go.Proofs.YtgginbpmebgkcaaGreatDoor
