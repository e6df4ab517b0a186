import Derived.Test.YtlffompekagihadByteS
import Derived.Test.YtlffompekagihadOwn
import Derived.Deep.QuietTactic
import Derived.Deep.CutRange
import Derived.Deep.RegionWith
import Derived.Deep.RegionHeld3
import Derived.Deep.DrawnRows
namespace Go.Proofs.Ytlffompekagihad
open Go.RowKit
attribute [local go_sem ↓] Go.wp_at_zero Go.wp_at_succ
set_option linter.unusedVariables false

/-- A stored block. -/
def headS (last : Int) (n : Nat) : List Int := [last, ((n % 256 : Nat) : Int), ((n / 256 % 256 : Nat) : Int), ((255 - n % 256 : Nat) : Int), ((255 - n / 256 % 256 : Nat) : Int)]
def blkS (last : Int) (d : List Int) : List Int := headS last d.length ++ d
/-- Stored blocks of per bytes each. -/
def encS (per : Nat) (zs : List Int) : List Int := if h : per = 0 ∨ zs.length ≤ per then blkS 1 zs else blkS 0 (zs.take per) ++ encS per (zs.drop per)
termination_by zs.length
decreasing_by simp; omega
theorem encS_last {per : Nat} {zs : List Int} (h : zs.length ≤ per) : encS per zs = blkS 1 zs := by
  rw [encS, dif_pos (.inr h)]
theorem encS_more {per : Nat} {zs : List Int} (h0 : 0 < per) (h : per < zs.length) : encS per zs = blkS 0 (zs.take per) ++ encS per (zs.drop per) := by
  rw [encS, dif_neg (by omega)]
theorem blkS_len (last : Int) (d : List Int) : (blkS last d).length = d.length + 5 := by simp [blkS, headS]
/-- What lies before a rest. -/
theorem encS_len (per : Nat) (h0 : 0 < per) : ∀ (n : Nat) (zs : List Int), zs.length ≤ n → (encS per zs).length ≤ 6 * zs.length + 5 := by
  intro n
  induction n with
  | zero =>
    intro zs h
    rw [encS_last (by omega), blkS_len]
    omega
  | succ n ih =>
    intro zs h
    by_cases h1 : zs.length ≤ per
    · rw [encS_last h1, blkS_len]
      omega
    · rw [encS_more h0 (by omega), List.length_append, blkS_len]
      have := ih (zs.drop per) (by simp; omega)
      simp only [List.length_take, List.length_drop] at *
      omega
theorem Row.dropped {w : World} {b off : Nat} {zs : List Int} (h : Row w (some ⟨b, off, none⟩) zs) (k : Nat) : Row w (some ⟨b, off + k, none⟩) (zs.drop k) := by
  intro i hi
  rw [List.length_drop] at hi
  obtain ⟨b', o', e, hc⟩ := h (k + i) (by omega)
  simp only [Option.some.injEq, Addr.mk.injEq, and_true] at e
  obtain ⟨rfl, rfl⟩ := e
  refine ⟨b, off + k, rfl, ?_⟩
  rw [Nat.add_assoc, hc]
  simp [List.getD]
theorem Row.taken {w : World} {ao : Option Addr} {zs : List Int} (h : Row w ao zs) (k : Nat) : Row w ao (zs.take k) := by
  intro i hi
  rw [List.length_take] at hi
  obtain ⟨b, o, e, hc⟩ := h i (by omega)
  refine ⟨b, o, e, ?_⟩
  rw [hc]
  simp [List.getD, (by omega : i < k)]
/-- What an encoder answers. -/
def Code (w w' : World) (zs : List Int) (e : Ending) : Prop := ∃ ao cap, e = .returned (.slice ao zs.length cap) ∧ w'.ownsRow w.heap.size 5 1 (.slice ao zs.length cap) zs.length (zs.map (Value.int .u8)) ∧ Below w.heap.size w w'

end Go.Proofs.Ytlffompekagihad
