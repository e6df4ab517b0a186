import Derived.Test.YtpbchecindmfeaaByteS
import Derived.Test.YtpbchecindmfeaaOwn
import Derived.Deep.QuietTactic
import Derived.Deep.CutRange
import Derived.Deep.RegionWith
import Derived.Deep.RegionHeld3
import Derived.Deep.DrawnRows
namespace Go.Proofs.Ytpbchecindmfeaa
open Go.RowKit
attribute [local go_sem ↓] Go.wp_at_zero Go.wp_at_succ
set_option linter.unusedVariables false

/-- A stored block. -/
def headS (last : Int) (n : Nat) : List Int := [last, ((n % 256 : Nat) : Int), ((n / 256 % 256 : Nat) : Int), ((255 - n % 256 : Nat) : Int), ((255 - n / 256 % 256 : Nat) : Int)]
def blkS (last : Int) (d : List Int) : List Int := headS last d.length ++ d
/-- Stored blocks of per bytes each. -/
def encN (per : Nat) : Nat → List Int → List Int
  | 0, zs => blkS 1 zs
  | n + 1, zs => if zs.length ≤ per then blkS 1 zs else blkS 0 (zs.take per) ++ encN per n (zs.drop per)
theorem encN_same {per : Nat} (h0 : 0 < per) : ∀ (n m : Nat) (zs : List Int), zs.length ≤ n → zs.length ≤ m → encN per n zs = encN per m zs := by
  intro n
  induction n with
  | zero =>
    intro m zs hn hm
    cases m with
    | zero => rfl
    | succ m => rw [encN, encN, if_pos (by omega)]
  | succ n ih =>
    intro m zs hn hm
    cases m with
    | zero => rw [encN, encN, if_pos (by omega)]
    | succ m =>
      rw [encN, encN]
      by_cases h : zs.length ≤ per
      · rw [if_pos h, if_pos h]
      · rw [if_neg h, if_neg h, ih m (zs.drop per) (by rw [List.length_drop]; omega) (by rw [List.length_drop]; omega)]
def encS (per : Nat) (zs : List Int) : List Int := encN per zs.length zs
theorem encS_last {per : Nat} {zs : List Int} (h : zs.length ≤ per) : encS per zs = blkS 1 zs := by
  unfold encS
  cases hz : zs.length with
  | zero => rfl
  | succ n => rw [encN, if_pos h]
theorem encS_more {per : Nat} {zs : List Int} (h0 : 0 < per) (h : per < zs.length) : encS per zs = blkS 0 (zs.take per) ++ encS per (zs.drop per) := by
  unfold encS
  cases hz : zs.length with
  | zero => omega
  | succ n => rw [encN, if_neg (by omega), encN_same h0 n (zs.drop per).length (zs.drop per) (by rw [List.length_drop]; omega) (Nat.le_refl _)]
theorem blkS_len (last : Int) (d : List Int) : (blkS last d).length = d.length + 5 := by simp [blkS, headS]
/-- What lies before a rest. -/
theorem encS_len (per : Nat) (h0 : 0 < per) : ∀ (n : Nat) (zs : List Int), zs.length ≤ n → (encS per zs).length ≤ 6 * zs.length + 5 := by
  intro n
  induction n with
  | zero =>
    intro zs h
    rw [encS_last (by omega), blkS_len]
    omega
  | succ n ih =>
    intro zs h
    by_cases h1 : zs.length ≤ per
    · rw [encS_last h1, blkS_len]
      omega
    · rw [encS_more h0 (by omega), List.length_append, blkS_len]
      have := ih (zs.drop per) (by simp; omega)
      simp only [List.length_take, List.length_drop] at *
      omega
theorem Row.dropped {w : World} {b off : Nat} {zs : List Int} (h : Row w (some ⟨b, off, none⟩) zs) (k : Nat) : Row w (some ⟨b, off + k, none⟩) (zs.drop k) := by
  intro i hi
  rw [List.length_drop] at hi
  obtain ⟨b', o', e, hc⟩ := h (k + i) (by omega)
  simp only [Option.some.injEq, Addr.mk.injEq, and_true] at e
  obtain ⟨rfl, rfl⟩ := e
  refine ⟨b, off + k, rfl, ?_⟩
  rw [Nat.add_assoc, hc]
  simp [List.getD]
theorem Row.taken {w : World} {ao : Option Addr} {zs : List Int} (h : Row w ao zs) (k : Nat) : Row w ao (zs.take k) := by
  intro i hi
  rw [List.length_take] at hi
  obtain ⟨b, o, e, hc⟩ := h i (by omega)
  refine ⟨b, o, e, ?_⟩
  rw [hc]
  simp [List.getD, (by omega : i < k)]
/-- What an encoder answers. -/
def Code (w w' : World) (zs : List Int) (e : Ending) : Prop := ∃ ao cap, e = .returned (.slice ao zs.length cap) ∧ w'.ownsRow w.heap.size 5 1 (.slice ao zs.length cap) zs.length (zs.map (Value.int .u8)) ∧ Below w.heap.size w w'

end Go.Proofs.Ytpbchecindmfeaa
