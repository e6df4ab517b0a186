namespace Go.Proofs.Ytmfacacpoajpgaa.Adl
/-- The joined sum: both halves. -/
def lo (a1 b1 : Int) : Int := (a1 + b1 - 1) % 65521
def hi (a1 a2 b2 n : Int) : Int := (a2 + b2 + n * (a1 - 1)) % 65521

theorem lo_spec (a1 b1 : Int) : (a1 + b1 + 65521 - 1) % 65521 = lo a1 b1 := by unfold lo; omega
theorem hi_spec (a1 a2 b2 n : Int) : (a2 + b2 + n % 65521 * ((a1 + 65521 - 1) % 65521)) % 65521 = hi a1 a2 b2 n := by
  unfold hi
  rw [Int.add_emod, ← Int.mul_emod, Int.add_emod (a2 + b2) (n * (a1 - 1))]
  congr 2
  rw [Int.mul_emod n (a1 - 1), Int.mul_emod n (a1 + 65521 - 1)]
  congr 2
  omega
theorem lo_bd (a1 b1 : Int) : 0 ≤ lo a1 b1 ∧ lo a1 b1 ≤ 65520 := by unfold lo; omega
theorem hi_bd (a1 a2 b2 n : Int) : 0 ≤ hi a1 a2 b2 n ∧ hi a1 a2 b2 n ≤ 65520 := by unfold hi; omega
theorem mul_bd (n x : Int) (h0 : 0 ≤ n) (h1 : n ≤ 1000000) (h2 : -1 ≤ x) (h3 : x ≤ 65520) : -1000000 ≤ n * x ∧ n * x ≤ 65520000000 := by
  constructor
  · have : n * (-1) ≤ n * x := Int.mul_le_mul_of_nonneg_left h2 h0
    omega
  · have : n * x ≤ n * 65520 := Int.mul_le_mul_of_nonneg_left h3 h0
    omega
theorem into (x : Int) : (x.tmod 65521 + 65521) % 65521 = x % 65521 := by
  have := Int.tmod_eq_emod (a := x) (b := 65521)
  rw [this]; split <;> simp <;> omega
end Go.Proofs.Ytmfacacpoajpgaa.Adl
