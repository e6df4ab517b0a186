import Derived.Test.YtmfacacpoajpgaaSum
/-
  PLAIN MATHEMATICS of the CRC's tables: a byte through k + 1 zero bytes; a step by one byte and a step by eight.
-/
namespace Go.Proofs.Ytmfacacpoajpgaa.Crc

theorem half_even (m : Nat) : half (2 * m) = m := by
  unfold half
  rw [if_neg (by omega)]
  omega

theorem halves_even (n m : Nat) : halves n (2 ^ n * m) = m := by
  induction n with
  | zero => simp [halves]
  | succ n ih =>
    rw [halves, Nat.pow_succ, Nat.mul_comm (2 ^ n) 2, Nat.mul_assoc, half_even]
    exact ih

/-- Eight bits further up are gone after eight steps. -/
theorem halves_up (k m : Nat) : halves (8 * (k + 1)) (256 * m) = halves (8 * k) m := by
  rw [show 8 * (k + 1) = 8 * k + 8 by omega, halves_add]
  congr 1
  exact halves_even 8 m

theorem split_byte (c : Nat) : c = 256 * (c / 256) ^^^ c % 256 := by
  apply Nat.eq_of_testBit_eq
  intro i
  rw [Nat.testBit_xor, show 256 * (c / 256) = 2 ^ 8 * (c / 2 ^ 8) from rfl, show c % 256 = c % 2 ^ 8 from rfl, Nat.testBit_two_pow_mul, Nat.testBit_mod_two_pow, Nat.testBit_div_two_pow]
  by_cases h : 8 ≤ i
  · simp [h, show ¬ i < 8 by omega]
  · simp [h, show i < 8 by omega]

/-- Row k of a byte. -/
def tab (k x : Nat) : Nat := halves (8 * (k + 1)) x
theorem tab_lt (k x : Nat) (h : x < 4294967296) : tab k x < 4294967296 := halves_lt _ _ h

theorem halves_byte (c : Nat) : halves 8 c = c / 256 ^^^ tab 0 (c % 256) := by
  conv => lhs; rw [split_byte c]
  rw [halves_xor]
  congr 1
  exact halves_even 8 _

theorem tab_succ (k x : Nat) : tab (k + 1) x = tab k x / 256 ^^^ tab 0 (tab k x % 256) := by
  rw [← halves_byte]
  unfold tab
  rw [← halves_add]
  congr 1
  omega

theorem xor_low (c x : Nat) (h : x < 256) : (c ^^^ x) / 256 = c / 256 ∧ (c ^^^ x) % 256 = c % 256 ^^^ x := by
  have h1 := @Nat.shiftRight_xor_distrib 8 c x
  have h2 := @Nat.xor_mod_two_pow c x 8
  constructor
  · have e : x >>> 8 = 0 := by rw [Nat.shiftRight_eq_div_pow]; omega
    rw [e, Nat.xor_zero, Nat.shiftRight_eq_div_pow, Nat.shiftRight_eq_div_pow] at h1
    exact h1
  · have e : x % 2 ^ 8 = x := by omega
    rw [e] at h2
    exact h2

/-- One byte by the tables. -/
theorem one_tab (c : Nat) (x : Int) (h : 0 ≤ x ∧ x ≤ 255) : one c x = c / 256 ^^^ tab 0 (c % 256 ^^^ x.toNat) := by
  unfold one
  rw [halves_byte, (xor_low c x.toNat (by omega)).1, (xor_low c x.toNat (by omega)).2]

theorem cr_zero (c : Nat) (xs : List Int) : cr c xs = halves (8 * xs.length) c ^^^ cr 0 xs := by
  have h := cr_xor 0 c xs
  rw [Nat.zero_xor] at h
  rw [h, Nat.xor_comm]

theorem cr_zero_cons (x : Int) (xs : List Int) : cr 0 (x :: xs) = halves (8 * (xs.length + 1)) x.toNat ^^^ cr 0 xs := by
  rw [cr_cons, cr_zero]
  congr 1
  unfold one
  rw [Nat.zero_xor, ← halves_add]
  congr 1

/-- A number's lowest byte, and the rest. -/
theorem halves_rest (k c : Nat) : halves (8 * (k + 1)) c = tab k (c % 256) ^^^ halves (8 * k) (c / 256) := by
  conv => lhs; rw [split_byte c]
  rw [halves_xor, halves_up, Nat.xor_comm]
  rfl

/-- Four bytes at once. -/
theorem halves_four (k c : Nat) (h : c < 4294967296) : halves (8 * (k + 4)) c = tab (k + 3) (c % 256) ^^^ tab (k + 2) (c / 256 % 256) ^^^ tab (k + 1) (c / 65536 % 256) ^^^ tab k (c / 16777216) := by
  rw [show k + 4 = (k + 3) + 1 from rfl, halves_rest, show k + 3 = (k + 2) + 1 from rfl, halves_rest, show k + 2 = (k + 1) + 1 from rfl, halves_rest, halves_rest]
  rw [Nat.div_div_eq_div_mul, Nat.div_div_eq_div_mul, Nat.div_div_eq_div_mul]
  have e : c / (256 * 256 * 256 * 256) = 0 := by omega
  have e2 : c / (256 * 256 * 256) % 256 = c / 16777216 := by omega
  have e3 : (256 * 256 : Nat) = 65536 := rfl
  rw [e, e2, e3, halves_zero, Nat.xor_zero]
  rw [Nat.xor_assoc, Nat.xor_assoc]

/-- Eight bytes at once. -/
theorem eight_tab (c b0 b1 b2 b3 b4 b5 b6 b7 : Nat) (h0 : b0 < 256) (h1 : b1 < 256) (h2 : b2 < 256) (h3 : b3 < 256) :
    cr c [(b0 : Int), b1, b2, b3, b4, b5, b6, b7] = halves 64 (c ^^^ (b0 ||| b1 * 256 ||| b2 * 65536 ||| b3 * 16777216)) ^^^ tab 3 b4 ^^^ tab 2 b5 ^^^ tab 1 b6 ^^^ tab 0 b7 := by
  have o1 : b0 ||| b1 * 256 = b1 * 256 + b0 := by
    have := Nat.two_pow_add_eq_or_of_lt (i := 8) (b := b0) h0 b1
    rw [Nat.or_comm, Nat.mul_comm]
    exact this.symm
  have o2 : (b1 * 256 + b0) ||| b2 * 65536 = b2 * 65536 + (b1 * 256 + b0) := by
    have := Nat.two_pow_add_eq_or_of_lt (i := 16) (b := b1 * 256 + b0) (by omega) b2
    rw [Nat.or_comm, Nat.mul_comm b2]
    exact this.symm
  have o3 : (b2 * 65536 + (b1 * 256 + b0)) ||| b3 * 16777216 = b3 * 16777216 + (b2 * 65536 + (b1 * 256 + b0)) := by
    have := Nat.two_pow_add_eq_or_of_lt (i := 24) (b := b2 * 65536 + (b1 * 256 + b0)) (by omega) b3
    rw [Nat.or_comm, Nat.mul_comm b3]
    exact this.symm
  rw [o1, o2, o3, halves_xor, cr_zero]
  simp only [cr_zero_cons, List.length_cons, List.length_nil, Int.toNat_natCast, cr_nil, Nat.xor_zero]
  rw [show (64 : Nat) = 8 * (4 + 4) from rfl, halves_four 4 (b3 * 16777216 + (b2 * 65536 + (b1 * 256 + b0))) (by omega)]
  have q0 : (b3 * 16777216 + (b2 * 65536 + (b1 * 256 + b0))) % 256 = b0 := by omega
  have q1 : (b3 * 16777216 + (b2 * 65536 + (b1 * 256 + b0))) / 256 % 256 = b1 := by omega
  have q2 : (b3 * 16777216 + (b2 * 65536 + (b1 * 256 + b0))) / 65536 % 256 = b2 := by omega
  have q3 : (b3 * 16777216 + (b2 * 65536 + (b1 * 256 + b0))) / 16777216 = b3 := by omega
  rw [q0, q1, q2, q3]
  simp only [tab, Nat.xor_assoc]
end Go.Proofs.Ytmfacacpoajpgaa.Crc
