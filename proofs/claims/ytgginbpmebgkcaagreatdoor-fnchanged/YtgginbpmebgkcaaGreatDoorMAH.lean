import Derived.WalkKit
import Derived.WalkSpells
import Derived.Deep.Draws
import Derived.Test.YtgginbpmebgkcaaGreatDoorMAB
namespace Go.Proofs.YtgginbpmebgkcaaGreatDoor
open Go.RowKit
set_option maxRecDepth 100000
set_option maxHeartbeats 25600000
section
variable{zs:List Int}
def cnt(zs:List Int)(l:Nat):Nat:=zs.countP (fun z=>z == (l:Int))
theorem cnt_nil(l:Nat):cnt [] l=0:=rfl
theorem QdE(zs:List Int)(z:Int)(l:Nat):cnt (zs++[z]) l=cnt zs l+if z=(l:Int) then 1 else 0:=by
 simp only [cnt,List.countP_append,List.countP_cons,List.countP_nil,Nat.zero_add];congr 1;by_cases h:z=(l:Int)<;>simp [h]
theorem QcB(zs:List Int)(l:Nat):cnt zs l<=zs.length:=List.countP_le_length
def VC(f:Nat->Nat):Nat->Nat
 | 0=>0
 | n+1=>VC f n+f (n+1)
theorem QgU(f g:Nat->Nat)(n:Nat):VC (fun l=>f l+g l) n=VC f n+VC g n:=by
 induction n with
 | zero=>rfl
 | succ n ih=>simp only [VC,ih];omega
theorem QeP(n:Nat):VC (fun _=>0) n=0:=by
 induction n with
 | zero=>rfl
 | succ n ih=>simp only [VC,ih]
theorem QgZ(f:Nat->Nat)(z n:Nat):VC (fun l=>if z=l then f l else 0) n=if 1<=z/\z<=n then f z else 0:=by
 induction n with
 | zero=>simp only [VC];rw [if_neg dk]
 | succ n ih=>
  simp only [VC,ih];by_cases h:z=n+1
  ·subst h;rw [if_neg dk,if_pos rfl,if_pos dk];omega
  ·rw [if_neg h]
   by_cases h2:1<=z/\z<=n
   ·rw [if_pos h2,if_pos dk];rfl
   ·rw [if_neg h2,if_neg dk]
def okL(zs:List Int):Prop:=∀z∈zs,0<=z/\z<=15
def nz:List Int->Nat
 | []=>0
 | z::zs=>(if 0<z then 1 else 0)+nz zs
def kr:List Int->Nat
 | []=>0
 | z::zs=>(if 0<z then 2^(15-z.toNat) else 0)+kr zs
theorem Qq6(zs:List Int)(z:Int):nz (zs++[z])=nz zs+if 0<z then 1 else 0:=by
 induction zs with
 | nil=>simp [nz]
 | cons a zs ih=>simp only [List.cons_append,nz,ih];omega
theorem Qqj(zs:List Int)(z:Int):kr (zs++[z])=kr zs+if 0<z then 2^(15-z.toNat) else 0:=by
 induction zs with
 | nil=>simp [kr]
 | cons a zs ih=>simp only [List.cons_append,kr,ih];omega
theorem Qrz(zs:List Int):nz zs<=zs.length:=by
 induction zs with
 | nil=>exact Nat.le_refl _
 | cons z zs ih=>simp only [nz,List.length_cons];split<;>omega
theorem QqT(z:Int):(if 0<z then 2^(15-z.toNat) else 0)<=16384:=by
 split
 ·have:(2:Nat)^(15-z.toNat)<=2^14:=Nat.pow_le_pow_right dk dk
  omega
 ·omega
theorem QrI(zs:List Int):kr zs<=16384*zs.length:=by
 induction zs with
 | nil=>simp [kr]
 | cons z zs ih=>have:=QqT z;simp only [kr,List.length_cons];omega
theorem Qcz(z:Int)(zs:List Int)(l:Nat):cnt (z::zs) l=cnt zs l+if z=(l:Int) then 1 else 0:=by
 simp only [cnt,List.countP_cons];congr 1;by_cases h:z=(l:Int)<;>simp [h]
theorem Qqm(zs:List Int)(h:okL zs):nz zs=VC (cnt zs) 15:=by
 induction zs with
 | nil=>rw [show cnt []=fun _=>0 from funext cnt_nil,QeP];rfl
 | cons z zs ih=>
  have r:=h z dr;obtain ⟨k,rfl⟩:∃k:Nat,z=k:=⟨z.toNat,dk⟩;have e:cnt ((k:Int)::zs)=fun l=>cnt zs l+if k=l then 1 else 0:=by
   funext l;rw [Qcz];simp only [Int.ofNat_inj]
  rw [e,QgU,QgZ (fun _=>1),nz,ih (fun x hx=>h x gx)];by_cases hk:0<k
  ·rw [if_pos dk,if_pos dk];omega
  ·rw [if_neg dk,if_neg dk];omega
theorem Qnt(zs:List Int)(h:okL zs):kr zs=VC (fun l=>cnt zs l*2^(15-l)) 15:=by
 induction zs with
 | nil=>rw [show (fun l=>cnt [] l*2^(15-l))=fun _=>0 from funext (fun l=>by rw [cnt_nil,Nat.zero_mul]),QeP];rfl
 | cons z zs ih=>
  have r:=h z dr;obtain ⟨k,rfl⟩:∃k:Nat,z=k:=⟨z.toNat,dk⟩;have e:(fun l=>cnt ((k:Int)::zs) l*2^(15-l))=fun l=>cnt zs l*2^(15-l)+if k=l then 2^(15-l) else 0:=by
   funext l;rw [Qcz,Nat.add_mul];simp only [Int.ofNat_inj];by_cases ax:k=l
   ·rw [if_pos ax,if_pos ax,Nat.one_mul]
   ·rw [if_neg ax,if_neg ax,Nat.zero_mul]
  rw [e,QgU,QgZ (fun l=>2^(15-l)),kr,ih (fun x hx=>h x gx)];by_cases hk:0<k
  ·rw [if_pos dk,if_pos dk,Int.toNat_natCast];omega
  ·rw [if_neg dk,if_neg dk];omega
theorem Qi5(zs:List Int)(h:okL zs)(h0:nz zs=0):kr zs=0/\cnt zs 1=0:=by
 induction zs with
 | nil=>exact ⟨rfl,rfl⟩
 | cons z zs ih=>
  simp only [nz] at h0;have r:¬0<z:=by intro r;rw [if_pos r] at h0;omega
  rw [if_neg r] at h0;obtain ⟨J,h2⟩:=ih (fun x hx=>h x gx) dk;refine ⟨by simp only [kr];rw [if_neg r,J],?_⟩;rw [Qcz,h2,if_neg du]
theorem Qps(zs:List Int)(h:okL zs)(h0:nz zs=1):kr zs=16384↔cnt zs 1=1:=by
 induction zs with
 | nil=>simp [nz] at h0
 | cons z zs ih=>
  have ho:okL zs:=fun x hx=>h x gx
  simp only [nz] at h0;by_cases r:0<z
  ·rw [if_pos r] at h0
   obtain ⟨J,h2⟩:=Qi5 zs ho dk;have hl:=h z dr;obtain ⟨k,rfl⟩:∃k:Nat,z=k:=⟨z.toNat,dk⟩;simp only [kr];rw [if_pos r,J,Qcz,h2,Int.toNat_natCast];have hk:k=1\/k=2\/k=3\/k=4\/k=5\/k=6\/k=7\/k=8\/k=9\/k=10\/k=11\/k=12\/k=13\/k=14\/k=15:=dk;rcases hk with rfl|rfl|rfl|rfl|rfl|rfl|rfl|rfl|rfl|rfl|rfl|rfl|rfl|rfl|rfl<;>decide
  ·rw [if_neg r] at h0
   simp only [kr];rw [if_neg r,Qcz,if_neg du,Nat.zero_add,Nat.add_zero];exact ih ho dk
def Qdx(n k:Nat):Int:=if n=0 then 5 else if 32768<k then 2 else if k=32768 then 1 else if n=1/\k=16384 then 4 else 3
def okB(zs:List Int):Bool:=decide (zs.length<=320) && zs.all (fun z=>decide (0<=z) && decide (z<=15))
def hk(zs:List Int):Int:=if okB zs then Qdx (nz zs) (kr zs) else 0
theorem Qcl(h:okB zs=true):zs.length<=320/\okL zs:=by
 simp only [okB,Bool.and_eq_true,decide_eq_true_eq,List.all_eq_true] at h;exact ⟨h.1,fun z hz=>by have:=h.2 z hz;simpa using this⟩
theorem QmR(h1:zs.length<=320)(h2:okL zs):okB zs=true:=by
 simp only [okB,Bool.and_eq_true,decide_eq_true_eq,List.all_eq_true];exact ⟨h1,fun z hz=>by have:=h2 z hz;simpa using this⟩
theorem Qjy(h1:¬zs.length<=320):okB zs=false:=by
 cases h:okB zs with
 | false=>rfl
 | true=>exact absurd (Qcl h).1 h1
theorem Qls{i:Nat}(hi:i<zs.length)(h1:¬(0<=zs.getD i 0/\zs.getD i 0<=15)):okB zs=false:=by
 cases h:okB zs with
 | false=>rfl
 | true=>
  refine absurd ((Qcl h).2 zs[i] (List.getElem_mem hi)) ?_;simpa [List.getD,hi] using h1
theorem Vg(zs:List Int)(k:Nat)(h:k<zs.length):zs.take (k+1)=zs.take k++[zs.getD k 0]:=gv
theorem QcU{k:Nat}(h:k<zs.length)(ho:okL (zs.take k))(h1:0<=zs.getD k 0/\zs.getD k 0<=15):okL (zs.take (k+1)):=by
 rw [Vg zs k h];intro z r;rcases List.mem_append.1 r with r|r
 ·exact ho z r
 ·have:z=zs.getD k 0:=by simpa using r
  rw [this];exact h1
end
end Go.Proofs.YtgginbpmebgkcaaGreatDoor
