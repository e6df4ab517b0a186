import Derived.Test.YtmfacacpoajpgabProg
import Derived.Test.YtmfacacpoajpgabMem
import Derived.WalkKit
import Derived.WalkSpells
import Derived.WalkLawsBesides
import Derived.Deep.QuietTactic
import Derived.BigQuiet
namespace Go.Proofs.Ytmfacacpoajpgab
open Go.RowKit

/-- ValidBits, of the length, At and Used. -/
def vld (n : Nat) (at_ used : Int) : Bool :=
  decide (0 ≤ at_ ∧ at_ ≤ 7 ∧ (at_ = 0 ∨ 0 < n) ∧ n ≤ 1000000 ∧ 0 ≤ used ∧ used ≤ 34359738368 ∧ used % 8 = at_)
theorem vld_true {n : Nat} {a u : Int} (h : 0 ≤ a ∧ a ≤ 7 ∧ (a = 0 ∨ 0 < n) ∧ n ≤ 1000000 ∧ 0 ≤ u ∧ u ≤ 34359738368 ∧ u % 8 = a) : true = vld n a u := (decide_eq_true h).symm
theorem vld_false {n : Nat} {a u : Int} (h : ¬ (0 ≤ a ∧ a ≤ 7 ∧ (a = 0 ∨ 0 < n) ∧ n ≤ 1000000 ∧ 0 ≤ u ∧ u ≤ 34359738368 ∧ u % 8 = a)) : false = vld n a u := (decide_eq_false h).symm
theorem vld_out {n : Nat} {a u : Int} (h : vld n a u = true) : 0 ≤ a ∧ a ≤ 7 ∧ (a = 0 ∨ 0 < n) ∧ n ≤ 1000000 ∧ 0 ≤ u ∧ u ≤ 34359738368 ∧ u % 8 = a := of_decide_eq_true h

theorem most_any (w : World) : Calls Try.prog 62 #[] w fun e w' => e = .returned (.int .i64 34359738368) ∧ w' = w := by
  go_enter Try.func62, Try.ntmps62
  go_wp2
  go_ret
  exact ⟨rfl, rfl⟩

end Go.Proofs.Ytmfacacpoajpgab
