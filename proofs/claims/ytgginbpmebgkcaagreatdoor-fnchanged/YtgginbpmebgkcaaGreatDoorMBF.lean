import Derived.Deep.AppendLies
import Derived.Test.YtgginbpmebgkcaaGreatDoorMAN
import Derived.Test.YtgginbpmebgkcaaGreatDoorMBE
namespace Go.Proofs.YtgginbpmebgkcaaGreatDoor
open Go.RowKit Go.Proofs.Tryz
attribute [local go_sem ↓] Go.wp_at_zero Go.wp_at_succ
set_option linter.unusedVariables false
end Go.Proofs.YtgginbpmebgkcaaGreatDoor
namespace Go.Proofs.YtgginbpmebgkcaaGreatDoor
open Go.RowKit Go.Proofs.Tryz
set_option linter.unusedVariables false
set_option maxRecDepth 100000
set_option maxHeartbeats 25600000
theorem QbN(L:List Nat)(hL:Bin L):Qh (pk L):=by
 induction L using Qcy with
 | h0=>intro z r;rw [QnI] at r;cases r
 | h1 L b ih=>
  have hb:b<=1:=hL b dr;have ih:=ih hL.left;rw [Qb6];unfold Qc0;split
  ·intro z r
   rcases List.mem_append.1 r with h|h
   ·exact ih z h
   ·have e:z=(b:Int):=eI
    subst e;omega
  ·rename_i h8
   obtain ⟨x,hx,a5⟩:=Qhh L hL.left h8;intro z r;rcases List.mem_or_eq_of_mem_set r with h|h
   ·exact ih z h
   ·rw [h,hx]
    have h1:2^(L.length%8)<=2^7:=Nat.pow_le_pow_right dn dk;have h2:b*2^(L.length%8)<=1*2^(L.length%8):=Nat.mul_le_mul_right _ hb;omega
end Go.Proofs.YtgginbpmebgkcaaGreatDoor
