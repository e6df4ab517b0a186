/-
  PLAIN MATHEMATICS of the CRC: one bit of division is linear over xor; the product of two polynomials by shifts and steps; x^(8n) by squaring. No Go, no program.
-/
namespace Go.Proofs.Ytmfacacpoajpgaa.Crc

/-- One bit of division. -/
def half (c : Nat) : Nat := if c % 2 = 1 then (c / 2) ^^^ 3988292384 else c / 2

/-- 'n' bits of division. -/
def halves : Nat → Nat → Nat
  | 0, c => c
  | n + 1, c => halves n (half c)

theorem xor_half (x y : Nat) : (x ^^^ y) / 2 = (x / 2) ^^^ (y / 2) := by
  have := @Nat.shiftRight_xor_distrib 1 x y
  simpa [Nat.shiftRight_succ] using this

theorem xor_mod (x y : Nat) : (x ^^^ y) % 2 = (x % 2 + y % 2) % 2 := by
  have h := Nat.testBit_xor x y 0
  simp only [Nat.testBit_zero] at h
  have hz := Nat.mod_two_eq_zero_or_one (x ^^^ y)
  rcases Nat.mod_two_eq_zero_or_one x with hx | hx <;> rcases Nat.mod_two_eq_zero_or_one y with hy | hy <;> rcases hz with hz | hz <;> rw [hx, hy, hz] at h <;> simp at h <;> omega

theorem half_xor (x y : Nat) : half (x ^^^ y) = half x ^^^ half y := by
  unfold half
  rw [xor_half, xor_mod]
  have key : ∀ a b c : Nat, (a ^^^ b) ^^^ c = (a ^^^ c) ^^^ b := by
    intro a b c; rw [Nat.xor_assoc, Nat.xor_comm b c, ← Nat.xor_assoc]
  rcases Nat.mod_two_eq_zero_or_one x with hx | hx <;> rcases Nat.mod_two_eq_zero_or_one y with hy | hy <;> simp only [hx, hy]
  · simp
  · simp [Nat.xor_assoc]
  · simp; rw [key]
  · simp
    rw [Nat.xor_assoc (x / 2), Nat.xor_comm 3988292384, Nat.xor_assoc, Nat.xor_self, Nat.xor_zero]

theorem half_zero : half 0 = 0 := by decide

theorem half_lt (x : Nat) (h : x < 4294967296) : half x < 4294967296 := by
  unfold half
  split
  · exact Nat.xor_lt_two_pow (n := 32) (by omega) (by decide)
  · omega

theorem halves_zero (n : Nat) : halves n 0 = 0 := by
  induction n with
  | zero => rfl
  | succ n ih => rw [halves, half_zero, ih]

theorem halves_xor (n x y : Nat) : halves n (x ^^^ y) = halves n x ^^^ halves n y := by
  induction n generalizing x y with
  | zero => rfl
  | succ n ih => rw [halves, half_xor, ih]; rfl

theorem halves_add (m n x : Nat) : halves (m + n) x = halves m (halves n x) := by
  induction n generalizing x with
  | zero => rfl
  | succ n ih => rw [← Nat.add_assoc, halves, ih]; rfl

theorem halves_succ (n x : Nat) : halves (n + 1) x = half (halves n x) := by
  rw [Nat.add_comm, halves_add]; rfl

theorem halves_lt (n x : Nat) (h : x < 4294967296) : halves n x < 4294967296 := by
  induction n generalizing x with
  | zero => exact h
  | succ n ih => exact ih _ (half_lt x h)

/-- What 'times' has gathered after j rounds: the bits of a from the highest on. -/
def gather (a b : Nat) : Nat → Nat
  | 0 => 0
  | j + 1 => gather a b j ^^^ (if a.testBit (31 - j) then halves j b else 0)

def times (a b : Nat) : Nat := gather a b 32

theorem gather_lt (a b j : Nat) (h : b < 4294967296) : gather a b j < 4294967296 := by
  induction j with
  | zero => exact (by decide : (0 : Nat) < 4294967296)
  | succ j ih =>
    unfold gather
    refine Nat.xor_lt_two_pow (n := 32) ih ?_
    split
    · exact halves_lt j b h
    · decide

theorem times_lt (a b : Nat) (h : b < 4294967296) : times a b < 4294967296 := gather_lt a b 32 h

/-- 'times a' is linear and commutes with 'half'. -/
theorem gather_xor (a x y j : Nat) : gather a (x ^^^ y) j = gather a x j ^^^ gather a y j := by
  induction j with
  | zero => exact (Nat.xor_self 0).symm
  | succ j ih =>
    simp only [gather]
    rw [ih]
    split
    · rw [halves_xor]
      rw [Nat.xor_assoc, Nat.xor_assoc, ← Nat.xor_assoc (gather a y j), Nat.xor_comm (gather a y j) (halves j x), Nat.xor_assoc]
    · simp

theorem gather_half (a x j : Nat) : gather a (half x) j = half (gather a x j) := by
  induction j with
  | zero => exact half_zero.symm
  | succ j ih =>
    simp only [gather]
    rw [half_xor, ih]
    congr 1
    split
    · rw [← halves_succ]; rfl
    · exact half_zero.symm

theorem times_halves (a x n : Nat) : times a (halves n x) = halves n (times a x) := by
  induction n generalizing x with
  | zero => rfl
  | succ n ih => rw [halves, ih]; unfold times; rw [gather_half]; rfl

theorem times_xor (a x y : Nat) : times a (x ^^^ y) = times a x ^^^ times a y := gather_xor a x y 32

theorem times_zero (a : Nat) : times a 0 = 0 := by
  have h := times_xor a 0 0
  rw [Nat.xor_self, Nat.xor_self] at h
  exact h

/-- The orbit of one: x^j is the bit 31 - j. -/
theorem halves_one (j : Nat) (h : j ≤ 31) : halves j 2147483648 = 2 ^ (31 - j) := by
  induction j with
  | zero => decide
  | succ j ih =>
    rw [halves_succ, ih (by omega)]
    have e : 31 - j = (31 - (j + 1)) + 1 := by omega
    rw [e, Nat.pow_succ]
    unfold half
    rw [if_neg (by omega)]
    omega

/-- A number is the xor of its bits, gathered from the highest. -/
theorem gather_one (a j : Nat) (ha : a < 4294967296) (h : j ≤ 32) (i : Nat) :
    (gather a 2147483648 j).testBit i = (decide (32 - j ≤ i) && a.testBit i) := by
  induction j with
  | zero =>
    unfold gather
    by_cases hi : 32 ≤ i
    · have : a.testBit i = false := Nat.testBit_lt_two_pow (Nat.lt_of_lt_of_le ha (by
        have : 2 ^ 32 ≤ 2 ^ i := Nat.pow_le_pow_right (by omega) hi
        simpa using this))
      simp [this]
    · simp [hi]
  | succ j ih =>
    simp only [gather]
    rw [Nat.testBit_xor, ih (by omega), halves_one j (by omega)]
    by_cases hi : i = 31 - j
    · subst hi
      have h1 : decide (32 - j ≤ 31 - j) = false := decide_eq_false (by omega)
      have h2 : decide (32 - (j + 1) ≤ 31 - j) = true := decide_eq_true (by omega)
      rw [h1, h2]
      cases hb : a.testBit (31 - j)
      · simp
      · simp
    · have h3 : (if a.testBit (31 - j) = true then 2 ^ (31 - j) else 0).testBit i = false := by
        split
        · exact Nat.testBit_two_pow_of_ne (fun h => hi h.symm)
        · simp
      rw [h3, Bool.xor_false]
      have h4 : decide (32 - j ≤ i) = decide (32 - (j + 1) ≤ i) := by
        rw [Bool.eq_iff_iff]; simp; omega
      rw [h4]

theorem times_one_right (a : Nat) (ha : a < 4294967296) : times a 2147483648 = a := by
  apply Nat.eq_of_testBit_eq
  intro i
  unfold times
  rw [gather_one a 32 ha (Nat.le_refl _)]
  simp

/-- Any gathering of rounds goes through a linear map that commutes with 'half'. -/
theorem times_gather (u a x j : Nat) : times u (gather a x j) = gather a (times u x) j := by
  induction j with
  | zero => exact times_zero u
  | succ j ih =>
    simp only [gather]
    rw [times_xor, ih]
    congr 1
    split
    · exact times_halves u x j
    · exact times_zero u

theorem times_comm_map (u a x : Nat) : times u (times a x) = times a (times u x) := times_gather u a x 32

theorem times_comm (u v : Nat) (hu : u < 4294967296) (hv : v < 4294967296) : times u v = times v u := by
  have h := times_comm_map u v 2147483648
  rw [times_one_right v hv, times_one_right u hu] at h
  exact h

theorem times_assoc (u v x : Nat) (hv : v < 4294967296) (hx : x < 4294967296) :
    times (times u v) x = times u (times v x) := by
  rw [times_comm _ x (times_lt u v hv) hx, times_comm_map x u v, times_comm x v hx hv]

theorem times_one (x : Nat) (hx : x < 4294967296) : times 2147483648 x = x := by
  rw [times_comm _ _ (by decide) hx, times_one_right x hx]

theorem times_byte (x : Nat) (hx : x < 4294967296) : times 8388608 x = halves 8 x := by
  have h : (8388608 : Nat) = halves 8 2147483648 := by decide
  rw [times_comm _ _ (by decide) hx, h, times_halves, times_one_right x hx]

/-- 'n' times the product with s. -/
def pow (s : Nat) : Nat → Nat → Nat
  | 0, x => x
  | n + 1, x => pow s n (times s x)

theorem pow_lt (s n x : Nat) (h : x < 4294967296) : pow s n x < 4294967296 := by
  induction n generalizing x with
  | zero => exact h
  | succ n ih => exact ih _ (times_lt s x h)

theorem pow_square (s : Nat) (hs : s < 4294967296) (n x : Nat) (hx : x < 4294967296) : pow (times s s) n x = pow s (2 * n) x := by
  induction n generalizing x with
  | zero => rfl
  | succ n ih =>
    rw [pow, ih _ (times_lt _ x hx), times_assoc s s x hs hx]
    rfl

theorem pow_byte (n x : Nat) (hx : x < 4294967296) : pow 8388608 n x = halves (8 * n) x := by
  induction n generalizing x with
  | zero => rfl
  | succ n ih =>
    rw [pow, ih _ (times_lt _ x hx), times_byte x hx, ← halves_add]
    rfl

theorem times_pow (p s n x : Nat) : times p (pow s n x) = pow s n (times p x) := by
  induction n generalizing x with
  | zero => rfl
  | succ n ih => rw [pow, ih, times_comm_map]; rfl

/-- The loop of squares: the invariant's step. -/
theorem square_step (p s m x : Nat) (hs : s < 4294967296) (hx : x < 4294967296) :
    times (if m % 2 = 1 then times p s else p) (pow (times s s) (m / 2) x) = times p (pow s m x) := by
  rw [pow_square s hs _ x hx]
  split
  · rename_i h
    rw [times_assoc p s _ hs (pow_lt _ _ _ hx)]
    rw [times_pow s s]
    have e : m = 2 * (m / 2) + 1 := by omega
    conv => rhs; rw [e]
    rfl
  · have e : 2 * (m / 2) = m := by omega
    rw [e]

end Go.Proofs.Ytmfacacpoajpgaa.Crc
