import Derived.Test.YtphfppbfgmoamadWinN
namespace Go.Proofs.Ytphfppbfgmoamad
open Go.RowKit
attribute [local go_sem ↓] Go.wp_at_zero Go.wp_at_succ
set_option linter.unusedVariables false

theorem vwin_nat {n : Nat} {s : Int} (h : vwin n s = true) : ∃ k : Nat, s = k ∧ 0 < k ∧ k ≤ 32768 ∧ n ≤ k := by
  have := vwin_out h
  exact ⟨s.toNat, by omega, by omega, by omega, by omega⟩

theorem Win.under {w w' : World} {p g : Nat} {s : Int} {v : Value} (h : Win w p s v) (hb : Below g w w') (hp : p < g) : Win w' p s v := by
  obtain ⟨h1, h2, h4, h5⟩ := h
  have e := hb.block p hp
  exact ⟨(World.cell?_of_block (w := w) e).trans h1, (World.cell?_of_block (w := w) e).trans h2, (World.frozen?_of_block (w := w) e).trans h4, (World.frozen?_of_block (w := w) e).trans h5⟩

theorem ownw1 (W : World) (base e g : Nat) (hb : base ≤ W.heap.size) (hg : W.heap.size = g) : (W.alloc (.cells #[] e)).drew.ownsRow base e 1 (.slice (some ⟨g, 0, none⟩) 0 0) 0 [] := by
  subst hg
  exact World.ownsRow_lit W #[] 0 hb (by unfold maxLen; omega) rfl

end Go.Proofs.Ytphfppbfgmoamad
