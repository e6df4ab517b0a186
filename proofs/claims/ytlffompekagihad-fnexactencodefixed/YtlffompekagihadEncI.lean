import Derived.Test.YtlffompekagihadEnc
namespace Go.Proofs.Ytlffompekagihad
open Go.RowKit
attribute [local go_sem ↓] Go.wp_at_zero Go.wp_at_succ
set_option linter.unusedVariables false

theorem hideE {p : Prop} (h : p) : Hid p := h
theorem row_five (w : World) (a b c d e : Int) (t : TypeId) : Row (w.alloc (.cells #[.int .u8 a, .int .u8 b, .int .u8 c, .int .u8 d, .int .u8 e] t)) (some ⟨w.heap.size, 0, none⟩) [a, b, c, d, e] := by
  refine Row.of fun i hi => ?_
  simp at hi
  rcases (by omega : i = 0 ∨ i = 1 ∨ i = 2 ∨ i = 3 ∨ i = 4) with rfl | rfl | rfl | rfl | rfl <;> simp [go_sem]
theorem xor_max (a : Nat) (h : a < 256) : bits .xor .u8 IntKind.u8.max (a : Int) = ((255 - a : Nat) : Int) := by
  have h1 : ∀ a : Fin 256, bits .xor .u8 IntKind.u8.max ((a.val : Nat) : Int) = ((255 - a.val : Nat) : Int) := by decide +kernel
  exact h1 ⟨a, h⟩
theorem headS_eq (l n : Nat) : [(l : Int), (n : Int) % 256, (n : Int) / 256 % 256, bits .xor .u8 IntKind.u8.max ((n : Int) % 256), bits .xor .u8 IntKind.u8.max ((n : Int) / 256 % 256)] = headS l n := by
  rw [show (n : Int) % 256 = ((n % 256 : Nat) : Int) from by omega, show (n : Int) / 256 % 256 = ((n / 256 % 256 : Nat) : Int) from by omega, xor_max _ (by omega), xor_max _ (by omega)]
  rfl
theorem blk_own (ao : Option Addr) (n cap : Nat) : (Value.slice ao n cap).ownBlock = blk ao := by cases ao <;> rfl
theorem OwnsB.base {e B : Nat} {w : World} {ao : Option Addr} {cap : Nat} {zs : List Int} (h : OwnsB e B w ao cap zs) : ∀ g, blk ao = some g → B ≤ g := by
  intro g e
  rcases Nat.lt_or_ge g B with h1 | h1
  · exact absurd e (h.mine.far h1)
  · exact h1
/-- Bytes below B stay. -/
theorem Row.beneath {w w' : World} {B : Nat} {ao : Option Addr} {zs : List Int} (h : Row w ao zs) (hb : Below B w w') (hl : ∀ ad, ao = some ad → 0 < zs.length → ad.block < B) : Row w' ao zs := by
  intro i hi
  obtain ⟨b, off, rfl, hc⟩ := h i hi
  exact ⟨b, off, rfl, by rw [hb.cell (p := ⟨b, off + i, none⟩) (hl ⟨b, off, none⟩ rfl (by omega))]; exact hc⟩
end Go.Proofs.Ytlffompekagihad
