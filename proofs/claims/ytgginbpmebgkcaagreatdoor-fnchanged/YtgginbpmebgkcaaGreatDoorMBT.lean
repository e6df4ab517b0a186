import Derived.Test.YtgginbpmebgkcaaGreatDoorMBI
import Derived.Test.YtgginbpmebgkcaaGreatDoorMBS
namespace Go.Proofs.YtgginbpmebgkcaaGreatDoor
open Go.RowKit Go.Proofs.Tryz
set_option linter.unusedVariables false
set_option maxRecDepth 100000
set_option maxHeartbeats 25600000
section
def gfn(ph:Nat):Nat:=if ph=0 then 77 else if ph=1 then 116 else if ph=2 then 162 else if ph=3 then 191 else if ph=4 then 198 else if ph=5 then 204 else if ph=6 then 209 else if ph=7 then 208 else if ph=8 then 213 else if ph=9 then 216 else 117
def VD(z q:Nat)(c:GC):Option (Nat×Array Value):=
 if c.bad=true then none else if c.ph=10 then if c.ic.st<=15 then some (ifn c.ic.st,#[.pointer (some ⟨q,0,none⟩)]) else some (78,#[.pointer (some ⟨z,0,none⟩)])
 else some (gfn c.ph,#[.pointer (some ⟨z,0,none⟩)])
theorem QkA(z q:Nat)(c:GC)(hb:c.bad=false)(h:c.ph≠10):Qa4 (VD z q) c=gF (gfn c.ph) z:=by
 unfold Qa4 VD;rw [if_neg gc,if_neg h];rfl
theorem Qor(z q:Nat)(c:GC)(hb:c.bad=false)(h:c.ph=10):Qa4 (VD z q) c=Qay q (gF 78 z) c.ic.st:=by
 unfold Qa4 VD Qay;rw [if_neg gc,if_pos h];exact qK
theorem QaU{zs:List Int}{c c':GC}(hz:Qh zs)(hzl:zs.length<=63)(h:GOK zs c)(hb:c.bad=false)(hs:Qn zs c=.inl c'):QT zs c=.inl c':=by
 unfold QT;rw [hs];exact if_pos (Qa6 hz hzl h hb hs).2
theorem Qbm{zs:List Int}{c cf:GC}{k:Int}(hs:Qn zs c=.inr (k,cf)):QT zs c=.inr (k,cf):=by
 unfold QT;rw [hs]
theorem QgA{zs:List Int}{c c':GC}(hs:QT zs c=.inl c'):Qn zs c=.inl c'/\gmu zs c'<gmu zs c:=by
 unfold QT at hs;exact qJ
theorem GMb.far{C:Nat->Value}{fl:Nat}(h:GMb C fl)(j:Nat)(v:Value)(hj:j<2\/9<j):GMb (VE C j v) fl:=by
 obtain ⟨E,t,r,H,s,I,D,A,J,o,G,L,cc,m2,m3,m4,m5,m6,m7,m8,g⟩:=h;have e:∀k,2<=k->k<=9->VE C j v k=C k:=fun k a b=>Ql C v dk
 exact ⟨E,t,r,H,s,I,D,A,J,o,G,L,cc,(e 2 dk dk).trans m2,(e 3 dk dk).trans m3,(e 4 dk dk).trans m4,(e 5 dk dk).trans m5,(e 6 dk dk).trans m6,(e 7 dk dk).trans m7,(e 8 dk dk).trans m8,(e 9 dk dk).trans g⟩
theorem GMb.i3{C:Nat->Value}{fl:Nat}(h:GMb C fl)(x:Int):GMb (VE C 3 (.int .i64 x)) fl:=by
 obtain ⟨E,t,r,H,s,I,D,A,J,o,G,L,cc,m2,m3,m4,m5,m6,m7,m8,g⟩:=h;exact ⟨x,t,r,H,s,I,D,A,J,o,G,L,cc,(Ql C _ dn).trans m2,Qaa C 3 _,(Ql C _ dn).trans m4,(Ql C _ dn).trans m5,(Ql C _ dn).trans m6,(Ql C _ dn).trans m7,(Ql C _ dn).trans m8,(Ql C _ dn).trans g⟩
theorem GMb.i4{C:Nat->Value}{fl:Nat}(h:GMb C fl)(x:Int):GMb (VE C 4 (.int .i64 x)) fl:=by
 obtain ⟨E,t,r,H,s,I,D,A,J,o,G,L,cc,m2,m3,m4,m5,m6,m7,m8,g⟩:=h;exact ⟨E,x,r,H,s,I,D,A,J,o,G,L,cc,(Ql C _ dn).trans m2,(Ql C _ dn).trans m3,Qaa C 4 _,(Ql C _ dn).trans m5,(Ql C _ dn).trans m6,(Ql C _ dn).trans m7,(Ql C _ dn).trans m8,(Ql C _ dn).trans g⟩
theorem GMb.i5{C:Nat->Value}{fl:Nat}(h:GMb C fl)(x:Int):GMb (VE C 5 (.int .i64 x)) fl:=by
 obtain ⟨E,t,r,H,s,I,D,A,J,o,G,L,cc,m2,m3,m4,m5,m6,m7,m8,g⟩:=h;exact ⟨E,t,x,H,s,I,D,A,J,o,G,L,cc,(Ql C _ dn).trans m2,(Ql C _ dn).trans m3,(Ql C _ dn).trans m4,Qaa C 5 _,(Ql C _ dn).trans m6,(Ql C _ dn).trans m7,(Ql C _ dn).trans m8,(Ql C _ dn).trans g⟩
theorem GMb.f2{C:Nat->Value}{fl:Nat}(h:GMb C fl)(x:Nat):GMb (VE C 2 (.int .i64 (x:Nat))) x:=by
 obtain ⟨E,t,r,H,s,I,D,A,J,o,G,L,cc,m2,m3,m4,m5,m6,m7,m8,g⟩:=h;exact ⟨E,t,r,H,s,I,D,A,J,o,G,L,cc,Qaa C 2 _,(Ql C _ dn).trans m3,(Ql C _ dn).trans m4,(Ql C _ dn).trans m5,(Ql C _ dn).trans m6,(Ql C _ dn).trans m7,(Ql C _ dn).trans m8,(Ql C _ dn).trans g⟩
theorem GMb.s6{C:Nat->Value}{fl:Nat}(h:GMb C fl)(a:Option Addr)(n k:Nat):GMb (VE C 6 (.slice a n k)) fl:=by
 obtain ⟨E,t,r,H,s,I,D,A,J,o,G,L,cc,m2,m3,m4,m5,m6,m7,m8,g⟩:=h;exact ⟨E,t,r,H,a,I,D,n,k,o,G,L,cc,(Ql C _ dn).trans m2,(Ql C _ dn).trans m3,(Ql C _ dn).trans m4,(Ql C _ dn).trans m5,Qaa C 6 _,(Ql C _ dn).trans m7,(Ql C _ dn).trans m8,(Ql C _ dn).trans g⟩
theorem GMb.s7{C:Nat->Value}{fl:Nat}(h:GMb C fl)(a:Option Addr)(n k:Nat):GMb (VE C 7 (.slice a n k)) fl:=by
 obtain ⟨E,t,r,H,s,I,D,A,J,o,G,L,cc,m2,m3,m4,m5,m6,m7,m8,g⟩:=h;exact ⟨E,t,r,H,s,a,D,A,J,n,k,L,cc,(Ql C _ dn).trans m2,(Ql C _ dn).trans m3,(Ql C _ dn).trans m4,(Ql C _ dn).trans m5,(Ql C _ dn).trans m6,Qaa C 7 _,(Ql C _ dn).trans m8,(Ql C _ dn).trans g⟩
theorem GMb.s8{C:Nat->Value}{fl:Nat}(h:GMb C fl)(a:Option Addr)(n k:Nat):GMb (VE C 8 (.slice a n k)) fl:=by
 obtain ⟨E,t,r,H,s,I,D,A,J,o,G,L,cc,m2,m3,m4,m5,m6,m7,m8,g⟩:=h;exact ⟨E,t,r,H,s,I,a,A,J,o,G,n,k,(Ql C _ dn).trans m2,(Ql C _ dn).trans m3,(Ql C _ dn).trans m4,(Ql C _ dn).trans m5,(Ql C _ dn).trans m6,(Ql C _ dn).trans m7,Qaa C 8 _,(Ql C _ dn).trans g⟩
theorem Gr2.ownsB{e Bb:Nat}{a b:World}{p z:Nat}(hg:Gr2 a b p z){ao:Option Addr}{cap:Nat}{L:List Int}(h:Qi e Bb a ao cap L)(hp:p<Bb)(hz:z<Bb):Qi e Bb b ao cap L:=h.keep (fun k e=>by
 have h5:=Qi.based h k e
 refine hg.block k ?_ dk dk
 rcases h.2 with ⟨h6,_⟩|⟨g',cap'',cur,h6,_,h7,_⟩
 ·simp only [Value.slice.injEq] at h6
  rw [h6.1] at e
  cases e
 ·simp only [Value.slice.injEq] at h6
  rw [h6.1] at e
  simp [Qt] at e
  subst e
  exact (Array.getElem?_eq_some_iff.1 h7).1)
theorem GHm.next{z q p hB B Bm:Nat}{zs:List Int}{W W':World}{c:GC}{wr:World}{C:Nat->Value}{am:Option Addr}{cm:Nat}{xs:List Value}(h:GHm z q p hB B Bm zs W c wr C am cm xs)(hg:Gr2 W W' p z)(c':GC)(C':Nat->Value)(hd':VO z q p hB zs c'.ic.lc.i c'.hs C' W')(hmb:GMb C' c'.fl)(h10:C' 10=.int .i64 (c'.mm:Nat))(h11:c'.ph=6->C' 11=.int .i64 (c'.xs:Nat))(h13:C' 13=C 13)(h1:C' 1=C 1)(h7:C' 7=C 7)(h8:C' 8=C 8)(est:c'.st=c.st)(enm:c'.nm=c.nm)(efr:c'.fr=c.fr)(eic:c'.ic=Vl c.ic c'.ic.lc.i)(hi:c.ic.lc.i<=c'.ic.lc.i)(hph:c.ph<=c'.ph):GHm z q p hB B Bm zs W' c' wr C' am cm xs:=by
 have D:=h.sz;refine ⟨hd',h.gr.trans hg,hmb,h10,h11,by rw [h13,est];exact h.m13,by rw [h1,enm];exact h.m1,by rw [enm];exact h.own,fun e=>?_,fun e=>?_,D,by rw [efr];exact h.fre,fun e=>?_⟩
 ·obtain ⟨a,A,L,X,S,l3⟩:=h.t7 dk
  exact ⟨a,A,L,h7.trans X,hg.ownsB S dk dk,dk⟩
 ·obtain ⟨a,A,L,X,S,l3,l4⟩:=h.t8 dk
  exact ⟨a,A,L,h8.trans X,hg.ownsB S dk dk,dk,fun e2=>l4 dk⟩
 ·obtain ⟨g,n,i0,k1,k2,k3⟩:=h.use (by rw [<-efr];exact e)
  refine ⟨g,n,i0,k1,k2,?_⟩;rw [eic];exact k3
section
variable {z q p hB B : Nat} {zs : List Int} {w0 W W' : World} {c : GC}
theorem QaS(hF:QaX z q p hB B w0)(hz:Qh zs)(hzl:zs.length<=63)(hM:Vr z q p hB B zs w0 W c)(hb:c.bad=false){c':GC}(hs:Qn zs c=.inl c')(hp':c'.ph<=9)(hbad:c'.bad=false){wr:World}{C:Nat->Value}{am:Option Addr}{cm:Nat}{xs:List Value}(hh':GHm z q p hB B w0.heap.size zs W' c' wr C am cm xs)(hb':Below B W W'){v:Value}(hv:v=gF (gfn c'.ph) z):Q3 (VD z q) (Vr z q p hB B zs w0) B (QT zs c) (.returned (.tuple #[v,.nilIface])) W W':=by
 have A:=Qa6 hz hzl (hM.ok hb) hb hs;exact .ok (QaU hz hzl (hM.ok hb) hb hs) (by rw [QkA z q c' hbad dk];exact hv) ⟨hM.bel.trans hb',hh'.fin A.1,fun _=>A.1,fun _ _=>⟨wr,C,am,cm,xs,hh'⟩,fun _ e=>absurd e dk⟩ hb'
theorem QaV(hF:QaX z q p hB B w0)(hM:Vr z q p hB B zs w0 W c)(hb:c.bad=false){k:Int}(hs:Qn zs c=.inr (k,Qy c)){wr:World}{C C':Nat->Value}{am:Option Addr}{cm:Nat}{xs:List Value}(hh:GHm z q p hB B w0.heap.size zs W c wr C am cm xs)(hg:Gr2 W W' p z){i' hs':Nat}(hd':VO z q p hB zs i' hs' C' W')(h1:C' 1=C 1)(h10:C' 10=C 10){v:Value}:Q3 (VD z q) (Vr z q p hB B zs w0) B (QT zs c) (.returned (.tuple #[v,flt k])) W W':=by
 have b:B<=W.heap.size:=Nat.le_trans hF.Bw hM.bel.size;have f:=hg.bel b hF.bp hF.bz;have A:=hM.ok hb;have hE:QcR z q B W' c:=Qlu (by have:=hh.sz;omega) (hh.gr.trans hg) hh.hd.qp hh.hd.qz hd'.gz hd'.c0 (h1.trans hh.m1) (h10.trans hh.m10) (fun e=>⟨hh.fre e,by rw [(A.fre e).2];rfl⟩) hh.use;exact .no (Qbm hs) ⟨hM.bel.trans f,hE.stop,fun e=>dx,fun e=>dx,fun e=>dx⟩ f
theorem Vr.grb(hF:QaX z q p hB B w0)(hM:Vr z q p hB B zs w0 W c)(hg:Gr2 W W' p z):Below B W W':=hg.bel (Nat.le_trans hF.Bw hM.bel.size) hF.bp hF.bz
theorem Qo6(hF:QaX z q p hB B w0)(hz:Qh zs)(hzl:zs.length<=63)(hM:Vr z q p hB B zs w0 W c)(hb:c.bad=false)(h0:c.ph=0)(hm:c.mm=0):Calls prog 77 #[.pointer (some ⟨z,0,none⟩)] W fun e W'=>Q3 (VD z q) (Vr z q p hB B zs w0) B (QT zs c) e W W':=by
 refine dZ ?_;intro wr C am cm xs f;have d:=hF.marks.below hM.bel hF.gB;have u:=f.m10;rw [hm] at u;by_cases M:c.ic.lc.i+8<=8*zs.length
 ·refine Calls.mono (Qqc f.hd d (Nat.le_trans hF.gB hF.bp) (Nat.le_trans hF.gB hF.bz) u M) ?_
  rintro e W' ⟨g,a,b,O⟩;by_cases Q:field (bnum zs) c.ic.lc.i 8=31
  ·exact se
  ·exact lA
 ·exact lB
theorem Qop(hF:QaX z q p hB B w0)(hz:Qh zs)(hzl:zs.length<=63)(hM:Vr z q p hB B zs w0 W c)(hb:c.bad=false)(h0:c.ph=0)(hm:c.mm=1):Calls prog 77 #[.pointer (some ⟨z,0,none⟩)] W fun e W'=>Q3 (VD z q) (Vr z q p hB B zs w0) B (QT zs c) e W W':=by
 refine dZ ?_;intro wr C am cm xs f;have d:=hF.marks.below hM.bel hF.gB;have u:=f.m10;rw [hm] at u;by_cases M:c.ic.lc.i+8<=8*zs.length
 ·refine Calls.mono (Qqw f.hd d (Nat.le_trans hF.gB hF.bp) (Nat.le_trans hF.gB hF.bz) u M) ?_
  rintro e W' ⟨g,a,b,O⟩;by_cases Q:field (bnum zs) c.ic.lc.i 8=139
  ·exact se
  ·exact lA
 ·exact lB
theorem QmG(hF:QaX z q p hB B w0)(hz:Qh zs)(hzl:zs.length<=63)(hM:Vr z q p hB B zs w0 W c)(hb:c.bad=false)(h0:c.ph=0)(hm:c.mm=2):Calls prog 77 #[.pointer (some ⟨z,0,none⟩)] W fun e W'=>Q3 (VD z q) (Vr z q p hB B zs w0) B (QT zs c) e W W':=by
 refine dZ ?_;intro wr C am cm xs f;have d:=hF.marks.below hM.bel hF.gB;have u:=f.m10;rw [hm] at u;by_cases M:c.ic.lc.i+8<=8*zs.length
 ·refine Calls.mono (QqZ f.hd d (Nat.le_trans hF.gB hF.bp) (Nat.le_trans hF.gB hF.bz) u M) ?_
  rintro e W' ⟨g,a,b,O⟩;by_cases Q:field (bnum zs) c.ic.lc.i 8=8
  ·rw [if_pos Q] at a
   obtain ⟨rfl,rfl⟩:=a;have E:Qn zs c=.inl {gAdv zs c 1 1 with mm:=c.mm+1}:=sf;refine QaS hF hz hzl hM hb E (by show (1:Nat)<=9;omega) hb (f.next O _ _ b ((f.mb.far 12 _ dk).far 10 _ dk) ?_ (fun e=>by have:(1:Nat)=6:=e;omega) ((Ql _ _ dn).trans (Ql _ _ dn)) ((Ql _ _ dn).trans (Ql _ _ dn)) ((Ql _ _ dn).trans (Ql _ _ dn)) ((Ql _ _ dn).trans (Ql _ _ dn)) rfl rfl rfl rfl ?_ ?_) (hM.grb hF O) rfl
   ·exact sg
   ·exact fB
   ·show c.ph<=1
    omega
  ·exact lA
 ·exact lB
theorem Qo7(hF:QaX z q p hB B w0)(hz:Qh zs)(hzl:zs.length<=63)(hM:Vr z q p hB B zs w0 W c)(hb:c.bad=false)(h0:c.ph=1):Calls prog 116 #[.pointer (some ⟨z,0,none⟩)] W fun e W'=>Q3 (VD z q) (Vr z q p hB B zs w0) B (QT zs c) e W W':=by
 refine dZ ?_;intro wr C am cm xs f;by_cases M:c.ic.lc.i+8<=8*zs.length
 ·refine Calls.mono (Qkw f.hd M) ?_
  rintro e W' ⟨g,a,b,O⟩;by_cases Q:31<field (bnum zs) c.ic.lc.i 8
  ·rw [if_pos Q] at a
   obtain ⟨⟨v,rfl⟩,rfl⟩:=a;have E:Qn zs c=.inr (3,Qy c):=by
    unfold Qn;rw [if_neg dk,if_pos h0,if_pos M,if_pos Q]
   exact lC
  ·rw [if_neg Q] at a
   obtain ⟨rfl,rfl⟩:=a;have E:Qn zs c=.inl {gAdv zs c 1 2 with fl:=field (bnum zs) c.ic.lc.i 8}:=by
    unfold Qn;rw [if_neg dk,if_pos h0,if_pos M,if_neg Q]
   refine QaS hF hz hzl hM hb E (by show (2:Nat)<=9;omega) hb (f.next O _ _ b ((f.mb.far 12 _ dk).f2 _) ((Ql _ _ dn).trans ((Ql _ _ dn).trans f.m10)) (fun e=>by have:(2:Nat)=6:=e;omega) ((Ql _ _ dn).trans (Ql _ _ dn)) ((Ql _ _ dn).trans (Ql _ _ dn)) ((Ql _ _ dn).trans (Ql _ _ dn)) ((Ql _ _ dn).trans (Ql _ _ dn)) rfl rfl rfl rfl ?_ ?_) (hM.grb hF O) rfl
   ·exact fB
   ·show c.ph<=2
    omega
 ·have E:Qn zs c=.inr (2,Qy c):=by
   unfold Qn;rw [if_neg dk,if_pos h0,if_neg M]
  refine Calls.mono (Ql4 f.hd M) ?_;rintro e W' ⟨⟨v,rfl⟩,b,O⟩;exact lD
theorem Qnq(hF:QaX z q p hB B w0)(hz:Qh zs)(hzl:zs.length<=63)(hM:Vr z q p hB B zs w0 W c)(hb:c.bad=false)(h0:c.ph=2):Calls prog 162 #[.pointer (some ⟨z,0,none⟩)] W fun e W'=>Q3 (VD z q) (Vr z q p hB B zs w0) B (QT zs c) e W W':=by
 refine dZ ?_;intro wr C am cm xs f;by_cases M:c.ic.lc.i+32<=8*zs.length
 ·refine Calls.mono (Qke f.hd M) ?_
  rintro e W' ⟨rfl,b,O⟩;have E:Qn zs c=.inl (gAdv zs c 4 3):=by
   unfold Qn;rw [if_neg dk,if_neg dk,if_pos h0,if_pos M]
  refine QaS hF hz hzl hM hb E (by show (3:Nat)<=9;omega) hb (f.next O _ _ b ((f.mb.far 12 _ dk).i3 _) ((Ql _ _ dn).trans ((Ql _ _ dn).trans f.m10)) (fun e=>by have:(3:Nat)=6:=e;omega) ((Ql _ _ dn).trans (Ql _ _ dn)) ((Ql _ _ dn).trans (Ql _ _ dn)) ((Ql _ _ dn).trans (Ql _ _ dn)) ((Ql _ _ dn).trans (Ql _ _ dn)) rfl rfl rfl rfl ?_ ?_) (hM.grb hF O) rfl
  ·show c.ic.lc.i<=c.ic.lc.i+32
   omega
  ·show c.ph<=3
   omega
 ·have E:Qn zs c=.inr (2,Qy c):=by
   unfold Qn;rw [if_neg dk,if_neg dk,if_pos h0,if_neg M]
  refine Calls.mono (Qmj f.hd M) ?_;exact gk
theorem Qrj(hF:QaX z q p hB B w0)(hz:Qh zs)(hzl:zs.length<=63)(hM:Vr z q p hB B zs w0 W c)(hb:c.bad=false)(h0:c.ph=3):Calls prog 191 #[.pointer (some ⟨z,0,none⟩)] W fun e W'=>Q3 (VD z q) (Vr z q p hB B zs w0) B (QT zs c) e W W':=by
 refine dZ ?_;intro wr C am cm xs f;by_cases M:c.ic.lc.i+8<=8*zs.length
 ·refine Calls.mono (Qnr f.hd M) ?_
  rintro e W' ⟨rfl,b,O⟩;have E:Qn zs c=.inl (gAdv zs c 1 4):=by
   unfold Qn;rw [if_neg dk,if_neg dk,if_neg dk,if_pos h0,if_pos M]
  refine QaS hF hz hzl hM hb E (by show (4:Nat)<=9;omega) hb (f.next O _ _ b ((f.mb.far 12 _ dk).i4 _) ((Ql _ _ dn).trans ((Ql _ _ dn).trans f.m10)) (fun e=>by have:(4:Nat)=6:=e;omega) ((Ql _ _ dn).trans (Ql _ _ dn)) ((Ql _ _ dn).trans (Ql _ _ dn)) ((Ql _ _ dn).trans (Ql _ _ dn)) ((Ql _ _ dn).trans (Ql _ _ dn)) rfl rfl rfl rfl ?_ ?_) (hM.grb hF O) rfl
  ·exact fB
  ·show c.ph<=4
   omega
 ·have E:Qn zs c=.inr (2,Qy c):=by
   unfold Qn;rw [if_neg dk,if_neg dk,if_neg dk,if_pos h0,if_neg M]
  refine Calls.mono (Qpb f.hd M) ?_;exact gk
theorem Qr2(hF:QaX z q p hB B w0)(hz:Qh zs)(hzl:zs.length<=63)(hM:Vr z q p hB B zs w0 W c)(hb:c.bad=false)(h0:c.ph=4):Calls prog 198 #[.pointer (some ⟨z,0,none⟩)] W fun e W'=>Q3 (VD z q) (Vr z q p hB B zs w0) B (QT zs c) e W W':=by
 refine dZ ?_;intro wr C am cm xs f;by_cases M:c.ic.lc.i+8<=8*zs.length
 ·refine Calls.mono (QoW f.hd M) ?_
  rintro e W' ⟨rfl,b,O⟩;have E:Qn zs c=.inl (gAdv zs c 1 5):=by
   unfold Qn;rw [if_neg dk,if_neg dk,if_neg dk,if_neg dk,if_pos h0,if_pos M]
  refine QaS hF hz hzl hM hb E (by show (5:Nat)<=9;omega) hb (f.next O _ _ b ((f.mb.far 12 _ dk).i5 _) ((Ql _ _ dn).trans ((Ql _ _ dn).trans f.m10)) (fun e=>by have:(5:Nat)=6:=e;omega) ((Ql _ _ dn).trans (Ql _ _ dn)) ((Ql _ _ dn).trans (Ql _ _ dn)) ((Ql _ _ dn).trans (Ql _ _ dn)) ((Ql _ _ dn).trans (Ql _ _ dn)) rfl rfl rfl rfl ?_ ?_) (hM.grb hF O) rfl
  ·exact fB
  ·show c.ph<=5
   omega
 ·have E:Qn zs c=.inr (2,Qy c):=by
   unfold Qn;rw [if_neg dk,if_neg dk,if_neg dk,if_neg dk,if_pos h0,if_neg M]
  refine Calls.mono (Qqs f.hd M) ?_;exact gk
theorem Qis(hF:QaX z q p hB B w0)(hz:Qh zs)(hzl:zs.length<=63)(hM:Vr z q p hB B zs w0 W c)(hb:c.bad=false)(h0:c.ph=5):Calls prog 204 #[.pointer (some ⟨z,0,none⟩)] W fun e W'=>Q3 (VD z q) (Vr z q p hB B zs w0) B (QT zs c) e W W':=by
 refine dZ ?_;intro wr C am cm xs f;by_cases Q:hfl (c.fl:Nat) 4=true
 ·by_cases M:c.ic.lc.i+16<=8*zs.length
  ·refine Calls.mono (Qgc f.hd f.mb Q M) ?_
   rintro e W' ⟨rfl,b,O⟩;have E:Qn zs c=.inl {gAdv zs c 2 6 with xs:=field (bnum zs) c.ic.lc.i 16}:=by
    unfold Qn;rw [if_neg dk,if_neg dk,if_neg dk,if_neg dk,if_neg dk,if_pos h0,if_pos Q,if_pos M]
   refine QaS hF hz hzl hM hb E (by show (6:Nat)<=9;omega) hb (f.next O _ _ b ((f.mb.far 12 _ dk).far 11 _ dk) ((Ql _ _ dn).trans ((Ql _ _ dn).trans f.m10)) (fun e=>Qaa _ 11 _) ((Ql _ _ dn).trans (Ql _ _ dn)) ((Ql _ _ dn).trans (Ql _ _ dn)) ((Ql _ _ dn).trans (Ql _ _ dn)) ((Ql _ _ dn).trans (Ql _ _ dn)) rfl rfl rfl rfl ?_ ?_) (hM.grb hF O) rfl
   ·show c.ic.lc.i<=c.ic.lc.i+16
    omega
   ·show c.ph<=6
    omega
  ·have E:Qn zs c=.inr (2,Qy c):=by
    unfold Qn;rw [if_neg dk,if_neg dk,if_neg dk,if_neg dk,if_neg dk,if_pos h0,if_pos Q,if_neg M]
   refine Calls.mono (Qh2 f.hd f.mb Q M) ?_;exact gk
 ·have E:Qn zs c=.inl {c with ph:=7}:=by
   unfold Qn;rw [if_neg dk,if_neg dk,if_neg dk,if_neg dk,if_neg dk,if_pos h0,if_neg Q]
  refine Calls.mono (Qft f.hd f.mb iW) ?_;rintro e W' ⟨rfl,b,O⟩;exact QaS hF hz hzl hM hb E lE hb (f.next O _ _ b f.mb f.m10 (fun e=>lF) rfl rfl rfl rfl rfl rfl rfl rfl (Nat.le_refl _) (by show c.ph<=7;omega)) (hM.grb hF O) rfl
theorem Qh9(hF:QaX z q p hB B w0)(hz:Qh zs)(hzl:zs.length<=63)(hM:Vr z q p hB B zs w0 W c)(hb:c.bad=false)(h0:c.ph=6):Calls prog 209 #[.pointer (some ⟨z,0,none⟩)] W fun e W'=>Q3 (VD z q) (Vr z q p hB B zs w0) B (QT zs c) e W W':=by
 refine dZ ?_;intro wr C am cm xs f;by_cases M:c.ic.lc.i+8*c.xs<=8*zs.length
 ·refine Calls.mono (Qfu f.hd (f.m11 h0) dk M) ?_
  rintro e W' ⟨rfl,X,n,A,b,O⟩;have E:Qn zs c=.inl (gAdv zs c c.xs 7):=by
   unfold Qn;rw [if_neg dk,if_neg dk,if_neg dk,if_neg dk,if_neg dk,if_neg dk,if_pos h0,if_pos M]
  refine QaS hF hz hzl hM hb E lE hb (f.next O _ _ b ((f.mb.far 12 _ dk).s6 _ _ _) ((Ql _ _ dn).trans ((Ql _ _ dn).trans f.m10)) (fun e=>lF) ((Ql _ _ dn).trans (Ql _ _ dn)) ((Ql _ _ dn).trans (Ql _ _ dn)) ((Ql _ _ dn).trans (Ql _ _ dn)) ((Ql _ _ dn).trans (Ql _ _ dn)) rfl rfl rfl rfl ?_ ?_) (hM.grb hF O) rfl
  ·show c.ic.lc.i<=c.ic.lc.i+8*c.xs
   omega
  ·show c.ph<=7
   omega
 ·have E:Qn zs c=.inr (2,Qy c):=by
   unfold Qn;rw [if_neg dk,if_neg dk,if_neg dk,if_neg dk,if_neg dk,if_neg dk,if_pos h0,if_neg M]
  refine Calls.mono (Qgx f.hd (f.m11 h0) M) ?_;exact gk
theorem QoJ(hF:QaX z q p hB B w0)(hz:Qh zs)(hzl:zs.length<=63)(hM:Vr z q p hB B zs w0 W c)(hb:c.bad=false)(h0:c.ph=7):Calls prog 208 #[.pointer (some ⟨z,0,none⟩)] W fun e W'=>Q3 (VD z q) (Vr z q p hB B zs w0) B (QT zs c) e W W':=by
 refine dZ ?_;intro wr C am cm xs f;have D:=f.sz;by_cases Q:hfl (c.fl:Nat) 8=true
 ·refine Qkc f.hd f.mb Q _ (fun w1 hd1 hb1=>?_)
  have j:=f.below hb1;have I:Gr2 W w1 p z:=(Gr2.refl W p z).below hb1;by_cases M:c.ic.lc.i+8<=8*zs.length
  ·by_cases hx:field (bnum zs) c.ic.lc.i 8=0
   ·have E:Qn zs c=.inl (gAdv zs c 1 8):=by
     unfold Qn;rw [if_neg dk,if_neg dk,if_neg dk,if_neg dk,if_neg dk,if_neg dk,if_neg dk,if_pos h0,if_pos Q,if_pos M,if_pos hx]
    refine Calls.mono (QgS hd1 7 _ _ M hx) ?_;rintro e W' ⟨rfl,b,O⟩;have g:=I.trans O;refine ⟨⟨_,_,rfl⟩,QaS hF hz hzl hM hb E lG hb (f.next g _ _ b (f.mb.far 12 _ dk) ((Ql _ _ dn).trans f.m10) (fun e=>lH) (Ql _ _ dn) (Ql _ _ dn) (Ql _ _ dn) (Ql _ _ dn) rfl rfl rfl rfl ?_ ?_) (hM.grb hF g) rfl⟩
    ·exact fB
    ·show c.ph<=8
     omega
   ·have E:Qn zs c=.inl (gAdv zs c 1 7):=by
     unfold Qn;rw [if_neg dk,if_neg dk,if_neg dk,if_neg dk,if_neg dk,if_neg dk,if_neg dk,if_pos h0,if_pos Q,if_pos M,if_neg hx]
    obtain ⟨a,A,L,X,S,l3⟩:=j.t7 dk;refine Calls.mono (QeN hd1 j.gr 7 _ _ dn M hx a A L X S dk dk dk dk dk) ?_;rintro e W' ⟨rfl,a',l,K,h,b,m,d,n⟩;have t:Below B W W':=sh;refine ⟨⟨_,_,rfl⟩,QaS hF hz hzl hM hb E lE hb (wr:=wr) (C:=VE (VE C 12 (.int .u32 (crcU c.hs ((zs.drop (c.ic.lc.i/8)).take 1):Nat))) 7 (.slice a' K.length l)) (am:=am) (cm:=cm) (xs:=xs) ⟨b,d,(f.mb.far 12 _ dk).s7 _ _ _,(Ql _ _ dn).trans ((Ql _ _ dn).trans f.m10),fun e=>lF,(Ql _ _ dn).trans ((Ql _ _ dn).trans f.m13),(Ql _ _ dn).trans ((Ql _ _ dn).trans f.m1),f.own,fun _=>⟨a',l,K,Qaa _ 7 _,m,si⟩,fun _=>by
     obtain ⟨a8,o,L8,r1,r2,r3,U⟩:=f.t8 dk;obtain ⟨rfl,rfl,rfl⟩:=U dk;exact ⟨none,0,[],(Ql _ _ dn).trans ((Ql _ _ dn).trans r1),Qi.nil _ _ _,lI,fun _=>⟨rfl,rfl,rfl⟩⟩,D,f.fre,f.use⟩ t rfl⟩
  ·have E:Qn zs c=.inr (2,Qy c):=by
    unfold Qn;rw [if_neg dk,if_neg dk,if_neg dk,if_neg dk,if_neg dk,if_neg dk,if_neg dk,if_pos h0,if_pos Q,if_neg M]
   refine Calls.mono (Qip hd1 7 _ _ M) ?_;exact sj
 ·have E:Qn zs c=.inl {c with ph:=8}:=by
   unfold Qn;rw [if_neg dk,if_neg dk,if_neg dk,if_neg dk,if_neg dk,if_neg dk,if_neg dk,if_pos h0,if_neg Q]
  refine Calls.mono (QjA f.hd f.mb iW) ?_;rintro e W' ⟨rfl,b,O⟩;exact QaS hF hz hzl hM hb E lG hb (f.next O _ _ b f.mb f.m10 (fun e=>lH) rfl rfl rfl rfl rfl rfl rfl rfl (Nat.le_refl _) (by show c.ph<=8;omega)) (hM.grb hF O) rfl
theorem Qkd(hF:QaX z q p hB B w0)(hz:Qh zs)(hzl:zs.length<=63)(hM:Vr z q p hB B zs w0 W c)(hb:c.bad=false)(h0:c.ph=8):Calls prog 213 #[.pointer (some ⟨z,0,none⟩)] W fun e W'=>Q3 (VD z q) (Vr z q p hB B zs w0) B (QT zs c) e W W':=by
 refine dZ ?_;intro wr C am cm xs f;have D:=f.sz;by_cases Q:hfl (c.fl:Nat) 16=true
 ·refine Qgu f.hd f.mb Q _ (fun w1 hd1 hb1=>?_)
  have j:=f.below hb1;have I:Gr2 W w1 p z:=(Gr2.refl W p z).below hb1;by_cases M:c.ic.lc.i+8<=8*zs.length
  ·by_cases hx:field (bnum zs) c.ic.lc.i 8=0
   ·have E:Qn zs c=.inl (gAdv zs c 1 9):=by
     unfold Qn;rw [if_neg dk,if_neg dk,if_neg dk,if_neg dk,if_neg dk,if_neg dk,if_neg dk,if_neg dk,if_pos h0,if_pos Q,if_pos M,if_pos hx]
    refine Calls.mono (QgS hd1 8 _ _ M hx) ?_;rintro e W' ⟨rfl,b,O⟩;have g:=I.trans O;refine ⟨⟨_,_,rfl⟩,QaS hF hz hzl hM hb E (by show (9:Nat)<=9;omega) hb (f.next g _ _ b (f.mb.far 12 _ dk) ((Ql _ _ dn).trans f.m10) (fun e=>by have:(9:Nat)=6:=e;omega) (Ql _ _ dn) (Ql _ _ dn) (Ql _ _ dn) (Ql _ _ dn) rfl rfl rfl rfl ?_ ?_) (hM.grb hF g) rfl⟩
    ·exact fB
    ·show c.ph<=9
     omega
   ·have E:Qn zs c=.inl (gAdv zs c 1 8):=by
     unfold Qn;rw [if_neg dk,if_neg dk,if_neg dk,if_neg dk,if_neg dk,if_neg dk,if_neg dk,if_neg dk,if_pos h0,if_pos Q,if_pos M,if_neg hx]
    obtain ⟨a,A,L,X,S,l3,_⟩:=j.t8 dk;refine Calls.mono (QeN hd1 j.gr 8 _ _ dn M hx a A L X S dk dk dk dk dk) ?_;rintro e W' ⟨rfl,a',l,K,h,b,m,d,n⟩;have t:Below B W W':=sh;refine ⟨⟨_,_,rfl⟩,QaS hF hz hzl hM hb E lG hb (wr:=wr) (C:=VE (VE C 12 (.int .u32 (crcU c.hs ((zs.drop (c.ic.lc.i/8)).take 1):Nat))) 8 (.slice a' K.length l)) (am:=am) (cm:=cm) (xs:=xs) ⟨b,d,(f.mb.far 12 _ dk).s8 _ _ _,(Ql _ _ dn).trans ((Ql _ _ dn).trans f.m10),fun e=>lH,(Ql _ _ dn).trans ((Ql _ _ dn).trans f.m13),(Ql _ _ dn).trans ((Ql _ _ dn).trans f.m1),f.own,fun e=>by have:(8:Nat)<=7:=e;omega,fun _=>⟨a',l,K,Qaa _ 8 _,m,si,fun e=>by have:(8:Nat)<=7:=e;omega⟩,D,f.fre,f.use⟩ t rfl⟩
  ·have E:Qn zs c=.inr (2,Qy c):=by
    unfold Qn;rw [if_neg dk,if_neg dk,if_neg dk,if_neg dk,if_neg dk,if_neg dk,if_neg dk,if_neg dk,if_pos h0,if_pos Q,if_neg M]
   refine Calls.mono (Qip hd1 8 _ _ M) ?_;exact sj
 ·have E:Qn zs c=.inl {c with ph:=9}:=by
   unfold Qn;rw [if_neg dk,if_neg dk,if_neg dk,if_neg dk,if_neg dk,if_neg dk,if_neg dk,if_neg dk,if_pos h0,if_neg Q]
  refine Calls.mono (Qgz f.hd f.mb iW) ?_;rintro e W' ⟨rfl,b,O⟩;exact QaS hF hz hzl hM hb E (by show (9:Nat)<=9;omega) hb (f.next O _ _ b f.mb f.m10 (fun e=>by have:(9:Nat)=6:=e;omega) rfl rfl rfl rfl rfl rfl rfl rfl (Nat.le_refl _) (by show c.ph<=9;omega)) (hM.grb hF O) rfl
end
end
end Go.Proofs.YtgginbpmebgkcaaGreatDoor
