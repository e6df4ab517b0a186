import Derived.Test.YtmfacacpoajpgabHNS
import Derived.Test.YtmfacacpoajpgabHCS
namespace Go.Proofs.Ytmfacacpoajpgab
open Go.RowKit
attribute [local go_sem ↓] Go.wp_at_zero Go.wp_at_succ
set_option linter.unusedVariables false

/-- What HuffNext answers. -/
def AnsN (zs : List Int) (b : Nat) (n : Int) (k s l : Nat) : Prop :=
  if okC zs = true ∧ 0 ≤ n ∧ n ≤ 64 then Ans zs b n.toNat k s l else k = 0 ∧ s = 0 ∧ l = 0
theorem AnsN.yes {zs : List Int} {b k s l : Nat} {n : Nat} (h1 : okC zs = true) (h2 : n ≤ 64) (h : Ans zs b n k s l) : AnsN zs b n k s l := by
  unfold AnsN
  rw [if_pos ⟨h1, by omega, by omega⟩]
  exact h
theorem AnsN.no {zs : List Int} {b : Nat} {n : Int} (h : ¬ (okC zs = true ∧ 0 ≤ n ∧ n ≤ 64)) : AnsN zs b n 0 0 0 := by
  unfold AnsN
  rw [if_neg h]
  exact ⟨rfl, rfl, rfl⟩
theorem AnsN.one {zs : List Int} {b : Nat} {n : Int} {k s l k' s' l' : Nat} (h : AnsN zs b n k s l) (h' : AnsN zs b n k' s' l') : k = k' ∧ s = s' ∧ l = l' := by
  unfold AnsN at h h'
  split at h
  · rename_i hc
    rw [if_pos hc] at h'
    exact h.one h'
  · rename_i hc
    rw [if_neg hc] at h'
    omega

end Go.Proofs.Ytmfacacpoajpgab
