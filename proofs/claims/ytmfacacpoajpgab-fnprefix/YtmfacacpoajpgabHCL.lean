import Derived.Test.YtmfacacpoajpgabHCS
namespace Go.Proofs.Ytmfacacpoajpgab
open Go.RowKit
attribute [local go_sem ↓] Go.wp_at_zero Go.wp_at_succ
set_option linter.unusedVariables false

/-- Codes that can be read: no block is named where there are none. -/
def Reads (w : World) (ao : Option Addr) (n : Nat) (F : Nat → Nat × Nat) : Prop := 0 < n → ∃ g, ao = some ⟨g, 0, none⟩ ∧ Codes w g n F
theorem RowH.reads {B : Nat} {w : World} {ao : Option Addr} {n : Nat} {F : Nat → Nat × Nat} (h : RowH B w ao n F) : Reads w ao n F := fun h0 => by
  obtain ⟨g, h1, _, h2⟩ := h h0
  exact ⟨g, h1, h2⟩

end Go.Proofs.Ytmfacacpoajpgab
