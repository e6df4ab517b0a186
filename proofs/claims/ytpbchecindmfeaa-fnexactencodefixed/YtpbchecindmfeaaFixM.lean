import Derived.Test.YtpbchecindmfeaaRep2
import Derived.Test.YtpbchecindmfeaaBitW
namespace Go.Proofs.Ytpbchecindmfeaa
open Go.RowKit
set_option linter.unusedVariables false

/-- The bits of a symbol's fixed code. -/
def cbits (i : Nat) : List Nat := bitsOf (code F288 i).2 (code F288 i).1
/-- The bits that are written before byte k. -/
def fixB (zs : List Int) : Nat → List Nat
  | 0 => [] ++ bitsOf 1 1 ++ bitsOf 1 2
  | k + 1 => fixB zs k ++ cbits (zs.getD k 0).toNat
def fixAll (zs : List Int) : List Nat := fixB zs zs.length ++ cbits 256
/-- What EncodeFixed answers. -/
def encF (zs : List Int) : List Int := if 100000 < zs.length then [] else pk (fixAll zs)
theorem encF_no {zs : List Int} (h : 100000 < zs.length) : encF zs = [] := if_pos h
theorem encF_yes {zs : List Int} (h : zs.length ≤ 100000) : encF zs = pk (fixAll zs) := if_neg (by omega)
theorem F288_most : ∀ z ∈ F288, 0 ≤ z ∧ z ≤ 9 := by decide +kernel
theorem F288_ok : okC F288 = true := by decide +kernel
theorem F288_nC : nC F288 = 288 := by rw [nC, F288_ok, F288_len]; rfl
theorem code_len (i : Nat) : (code F288 i).1 ≤ 9 := by
  have h : (F288.getD i 0).toNat ≤ 9 := by
    by_cases hi : i < F288.length
    · have := F288_most (F288.getD i 0) (by simp [List.getD, hi])
      omega
    · simp [List.getD, hi]
  unfold code
  split
  · exact Nat.zero_le _
  · exact h
theorem code_bits (i : Nat) : (code F288 i).2 < 2 ^ 64 := by
  unfold code
  split
  · exact Nat.pos_of_ne_zero (by simp)
  · refine Nat.lt_of_lt_of_le (tr_lt _ _) (Nat.pow_le_pow_right (by decide) ?_)
    have := code_len i
    unfold code at this
    rename_i h
    rw [if_neg h] at this
    have h2 : (F288.getD i 0).toNat ≤ 9 := this
    omega
theorem cbits_len (i : Nat) : (cbits i).length ≤ 9 := by unfold cbits; rw [bitsOf_len]; exact code_len i
theorem fixB_len (zs : List Int) (k : Nat) : (fixB zs k).length ≤ 3 + 9 * k := by
  induction k with
  | zero => simp [fixB, bitsOf_len]
  | succ k ih =>
    rw [fixB, List.length_append]
    have := cbits_len (zs.getD k 0).toNat
    omega
theorem fixB_bin (zs : List Int) (k : Nat) : Bin (fixB zs k) := by
  induction k with
  | zero => exact (Bin.app (fun b hb => by cases hb) (bitsOf_bin _ _)).app (bitsOf_bin _ _)
  | succ k ih => exact ih.app (bitsOf_bin _ _)
theorem encF_len (zs : List Int) : (encF zs).length ≤ 600005 := by
  by_cases h : 100000 < zs.length
  · rw [encF_no h]; simp
  · rw [encF_yes (by omega), pk_len, fixAll, List.length_append]
    have h1 := fixB_len zs zs.length
    have h2 := cbits_len 256
    omega
end Go.Proofs.Ytpbchecindmfeaa
