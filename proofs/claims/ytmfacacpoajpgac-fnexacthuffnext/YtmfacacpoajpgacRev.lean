/-
  BITS TURNED ROUND: the six steps of math/bits.Reverse64, and the turning of the lowest bits one by one. No program.
-/
import Derived.WalkKit
namespace Go.Proofs.Ytmfacacpoajpgac
open Go.RowKit

/-- One step: neighbours of s bits change places. -/
def swp (s m x : Nat) : Nat := (x >>> s &&& m) ||| ((x &&& m) <<< s)
/-- Where bit i comes from. -/
def frm (s m i : Nat) : Nat := if m.testBit i then i + s else i - s
/-- The mask has i, or it has i - s and not i. -/
def fine (s m i : Nat) : Bool := if m.testBit i then (i < s || !m.testBit (i - s)) else (decide (s ≤ i) && m.testBit (i - s))
theorem swp_bit (s m x i : Nat) (h : fine s m i = true) : (swp s m x).testBit i = x.testBit (frm s m i) := by
  unfold swp frm
  unfold fine at h
  rw [Nat.testBit_or, Nat.testBit_and, Nat.testBit_shiftRight, Nat.testBit_shiftLeft, Nat.testBit_and]
  by_cases hm : m.testBit i = true
  · rw [if_pos hm] at h ⊢
    rw [hm, Bool.and_true, Nat.add_comm i s]
    by_cases hs : i < s
    · have : decide (i ≥ s) = false := decide_eq_false (by omega)
      rw [this, Bool.false_and, Bool.or_false]
    · have h2 : m.testBit (i - s) = false := by simpa [hs] using h
      rw [h2, Bool.and_false, Bool.and_false, Bool.or_false]
  · rw [if_neg hm] at h ⊢
    simp only [Bool.and_eq_true, decide_eq_true_eq] at h
    have hm' : m.testBit i = false := by simpa using hm
    have : decide (i ≥ s) = true := decide_eq_true h.1
    rw [hm', Bool.and_false, Bool.false_or, this, Bool.true_and, h.2, Bool.and_true]

def m1 : Nat := 6148914691236517205
def m2 : Nat := 3689348814741910323
def m4 : Nat := 1085102592571150095
def m8 : Nat := 71777214294589695
def m16 : Nat := 281470681808895
def m32 : Nat := 4294967295
/-- Reverse64. -/
def rev64 (x : Nat) : Nat := swp 32 m32 (swp 16 m16 (swp 8 m8 (swp 4 m4 (swp 2 m2 (swp 1 m1 x)))))
theorem rev_way : ∀ i, i < 64 → fine 32 m32 i = true ∧ fine 16 m16 (frm 32 m32 i) = true ∧ fine 8 m8 (frm 16 m16 (frm 32 m32 i)) = true ∧ fine 4 m4 (frm 8 m8 (frm 16 m16 (frm 32 m32 i))) = true ∧
    fine 2 m2 (frm 4 m4 (frm 8 m8 (frm 16 m16 (frm 32 m32 i)))) = true ∧ fine 1 m1 (frm 2 m2 (frm 4 m4 (frm 8 m8 (frm 16 m16 (frm 32 m32 i))))) = true ∧
    frm 1 m1 (frm 2 m2 (frm 4 m4 (frm 8 m8 (frm 16 m16 (frm 32 m32 i))))) = 63 - i := by decide +kernel
theorem rev_bit (x i : Nat) (h : i < 64) : (rev64 x).testBit i = x.testBit (63 - i) := by
  obtain ⟨h1, h2, h3, h4, h5, h6, h7⟩ := rev_way i h
  unfold rev64
  rw [swp_bit _ _ _ _ h1, swp_bit _ _ _ _ h2, swp_bit _ _ _ _ h3, swp_bit _ _ _ _ h4, swp_bit _ _ _ _ h5, swp_bit _ _ _ _ h6, h7]

/-- The n lowest bits of x turned round, behind what is there. -/
def turn : Nat → Nat → Nat → Nat
  | _, 0, o => o
  | x, n + 1, o => turn (x / 2) n (2 * o + x % 2)
theorem turn_lt (x n o k : Nat) (h : o < 2 ^ k) : turn x n o < 2 ^ (k + n) := by
  induction n generalizing x o k with
  | zero => exact h
  | succ n ih =>
    rw [turn, show k + (n + 1) = (k + 1) + n by omega]
    refine ih _ _ _ ?_
    rw [Nat.pow_succ]
    omega
theorem turn_bit (x n o i : Nat) : (turn x n o).testBit i = if i < n then x.testBit (n - 1 - i) else o.testBit (i - n) := by
  induction n generalizing x o with
  | zero => simp [turn]
  | succ n ih =>
    rw [turn, ih]
    by_cases h : i < n
    · rw [if_pos h, if_pos (by omega), show n + 1 - 1 - i = (n - 1 - i) + 1 by omega, Nat.testBit_succ]
    · rw [if_neg h]
      by_cases h2 : i = n
      · subst h2
        rw [if_pos (by omega), show i + 1 - 1 - i = 0 by omega, Nat.sub_self]
        rw [Nat.testBit_zero, Nat.testBit_zero, show (2 * o + x % 2) % 2 = x % 2 by omega]
      · rw [if_neg (by omega), show i - n = (i - (n + 1)) + 1 by omega, Nat.testBit_succ]
        congr 1
        omega
/-- The code turned round. -/
def tr (x l : Nat) : Nat := turn x l 0
theorem tr_lt (x l : Nat) : tr x l < 2 ^ l := by
  have := turn_lt x l 0 0 (by decide)
  rw [Nat.zero_add] at this
  exact this
theorem swp_lt (s m x : Nat) (hm : m < 2 ^ 64) (h2 : m <<< s < 2 ^ 64) : swp s m x < 2 ^ 64 := by
  unfold swp
  refine Nat.or_lt_two_pow (Nat.lt_of_le_of_lt Nat.and_le_right hm) ?_
  refine Nat.lt_of_le_of_lt ?_ h2
  rw [Nat.shiftLeft_eq, Nat.shiftLeft_eq]
  exact Nat.mul_le_mul_right _ Nat.and_le_right
theorem rev_lt (x : Nat) : rev64 x < 2 ^ 64 := swp_lt _ _ _ (by decide) (by decide)
theorem rev_turn (x l : Nat) (h : l ≤ 64) : rev64 x >>> (64 - l) = tr x l := by
  apply Nat.eq_of_testBit_eq
  intro i
  rw [Nat.testBit_shiftRight, tr, turn_bit]
  by_cases hi : i < l
  · rw [if_pos hi, rev_bit x _ (by omega)]
    congr 1
    omega
  · rw [if_neg hi, Nat.zero_testBit]
    exact Nat.testBit_lt_two_pow (Nat.lt_of_lt_of_le (rev_lt x) (Nat.pow_le_pow_right (by decide) (by omega)))
end Go.Proofs.Ytmfacacpoajpgac
