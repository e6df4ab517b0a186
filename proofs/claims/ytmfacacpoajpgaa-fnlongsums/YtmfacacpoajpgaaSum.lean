import Derived.Test.YtmfacacpoajpgaaAdl
import Derived.Test.YtmfacacpoajpgaaCrc
/-
  PLAIN MATHEMATICS of the two sums over lists of bytes: the remainder after every byte or after a run; a text in two parts; the joined sum.
-/
namespace Go.Proofs.Ytmfacacpoajpgaa.Adl

/-- The plain sum: remainders after every byte. -/
def up : Int → Int → List Int → Int × Int
  | s, t, [] => (s, t)
  | s, t, x :: xs => up ((s + x) % 65521) ((t + (s + x) % 65521) % 65521) xs

/-- The same without remainders. -/
def raw : Int → Int → List Int → Int × Int
  | s, t, [] => (s, t)
  | s, t, x :: xs => raw (s + x) (t + (s + x)) xs

/-- What a list adds by itself. -/
def sum : List Int → Int
  | [] => 0
  | x :: xs => x + sum xs
def wsum : List Int → Int
  | [] => 0
  | x :: xs => (xs.length + 1) * x + wsum xs

theorem raw_eq (s t : Int) (xs : List Int) : raw s t xs = (s + sum xs, t + xs.length * s + wsum xs) := by
  induction xs generalizing s t with
  | nil => simp [raw, sum, wsum]
  | cons x xs ih =>
    rw [raw, ih, sum, wsum]
    simp only [List.length_cons, Int.natCast_add, Int.natCast_one]
    rw [Int.add_mul, Int.mul_add, Int.add_mul]
    refine Prod.ext (by simp only; omega) (by simp only; omega)

theorem up_raw (s t : Int) (xs : List Int) (s' t' : Int) (hs : s % 65521 = s' % 65521) (ht : t % 65521 = t' % 65521) (b : 0 ≤ s ∧ s < 65521 ∧ 0 ≤ t ∧ t < 65521) :
    up s t xs = ((raw s' t' xs).1 % 65521, (raw s' t' xs).2 % 65521) := by
  induction xs generalizing s t s' t' with
  | nil => simp only [up, raw]; refine Prod.ext (by simp only; omega) (by simp only; omega)
  | cons x xs ih =>
    rw [up, raw]
    exact ih _ _ _ _ (by omega) (by omega) (by omega)

theorem up_append (s t : Int) (xs ys : List Int) : up s t (xs ++ ys) = up (up s t xs).1 (up s t xs).2 ys := by
  induction xs generalizing s t with
  | nil => rfl
  | cons x xs ih => rw [List.cons_append, up, ih]; rfl

theorem up_bd (s t : Int) (xs : List Int) (b : 0 ≤ s ∧ s < 65521 ∧ 0 ≤ t ∧ t < 65521) : 0 ≤ (up s t xs).1 ∧ (up s t xs).1 < 65521 ∧ 0 ≤ (up s t xs).2 ∧ (up s t xs).2 < 65521 := by
  induction xs generalizing s t with
  | nil => exact b
  | cons x xs ih => exact ih _ _ (by omega)

theorem raw_append (s t : Int) (xs ys : List Int) : raw s t (xs ++ ys) = raw (raw s t xs).1 (raw s t xs).2 ys := by
  induction xs generalizing s t with
  | nil => rfl
  | cons x xs ih => rw [List.cons_append, raw, ih]; rfl

/-- A run of at most 5552 bytes stays within 32 bits. -/
def tri : Nat → Nat
  | 0 => 0
  | n + 1 => tri n + (n + 1)
theorem tri_eq (n : Nat) : 2 * tri n = n * (n + 1) := by
  induction n with
  | zero => rfl
  | succ n ih => rw [tri, Nat.mul_add, ih, ← Nat.add_mul, Nat.mul_comm]
theorem tri_le (n : Nat) (h : n ≤ 5552) : tri n ≤ 15415128 := by
  have h1 := tri_eq n
  have h2 : n * (n + 1) ≤ 5552 * 5553 := Nat.mul_le_mul h (by omega)
  omega

theorem raw_snoc (s t : Int) (xs : List Int) (x : Int) : raw s t (xs ++ [x]) = ((raw s t xs).1 + x, (raw s t xs).2 + ((raw s t xs).1 + x)) := by
  rw [raw_append]; rfl

theorem snoc_induction {P : List Int → Prop} (h0 : P []) (h1 : ∀ xs x, P xs → P (xs ++ [x])) (xs : List Int) : P xs := by
  rw [← List.reverse_reverse xs]
  induction xs.reverse with
  | nil => exact h0
  | cons x ys ih => rw [List.reverse_cons]; exact h1 _ _ ih

theorem raw_bd (s t : Int) (b : 0 ≤ s ∧ s < 65521 ∧ 0 ≤ t ∧ t < 65521) (xs : List Int) (h : ∀ x ∈ xs, 0 ≤ x ∧ x ≤ 255) :
    0 ≤ (raw s t xs).1 ∧ (raw s t xs).1 ≤ 65520 + 255 * xs.length ∧ 0 ≤ (raw s t xs).2 ∧ (raw s t xs).2 ≤ 65520 * (xs.length + 1) + 255 * (tri xs.length : Nat) := by
  revert h
  refine snoc_induction (P := fun xs => (∀ x ∈ xs, 0 ≤ x ∧ x ≤ 255) → 0 ≤ (raw s t xs).1 ∧ (raw s t xs).1 ≤ 65520 + 255 * xs.length ∧ 0 ≤ (raw s t xs).2 ∧ (raw s t xs).2 ≤ 65520 * (xs.length + 1) + 255 * (tri xs.length : Nat)) ?_ ?_ xs
  · intro _; simp [raw, tri]; omega
  · intro ys x ih h
    have ih := ih (fun z hz => h z (by simp [hz]))
    have hx := h x (by simp)
    rw [raw_snoc]
    simp only [List.length_append, List.length_cons, List.length_nil, Nat.zero_add, tri, Int.natCast_add, Int.natCast_one]
    omega

theorem raw_lt (s t : Int) (b : 0 ≤ s ∧ s < 65521 ∧ 0 ≤ t ∧ t < 65521) (xs : List Int) (h : ∀ x ∈ xs, 0 ≤ x ∧ x ≤ 255) (hl : xs.length ≤ 5552) :
    0 ≤ (raw s t xs).1 ∧ (raw s t xs).1 < 4294967296 ∧ 0 ≤ (raw s t xs).2 ∧ (raw s t xs).2 < 4294967296 := by
  have h1 := raw_bd s t b xs h
  have h2 := tri_le xs.length hl
  omega

/-- The whole number. -/
def whole (p : Int × Int) : Int := p.2 * 65536 + p.1
theorem whole_lo (p : Int × Int) (h : 0 ≤ p.1 ∧ p.1 < 65521 ∧ 0 ≤ p.2 ∧ p.2 < 65521) : whole p % 65536 % 65521 = p.1 ∧ whole p / 65536 % 65521 = p.2 ∧ 0 ≤ whole p ∧ whole p < 4294967296 := by
  unfold whole; omega

/-- The joined sum is the whole text's. -/
theorem join_eq (xs ys : List Int) :
    hi (up 1 0 xs).1 (up 1 0 xs).2 (up 1 0 ys).2 ys.length * 65536 + lo (up 1 0 xs).1 (up 1 0 ys).1 = whole (up 1 0 (xs ++ ys)) := by
  have ha := up_bd 1 0 xs (by omega)
  rw [up_append]
  generalize up 1 0 xs = a at *
  obtain ⟨a1, a2⟩ := a
  simp only at ha ⊢
  rw [up_raw a1 a2 ys a1 a2 rfl rfl ha, up_raw 1 0 ys 1 0 rfl rfl (by omega), raw_eq, raw_eq]
  unfold whole hi lo
  simp only [Int.mul_one]
  have hm := Int.mul_sub (ys.length : Int) a1 1
  rw [hm]
  generalize (ys.length : Int) * a1 = q
  generalize sum ys = u
  generalize wsum ys = v
  omega
end Go.Proofs.Ytmfacacpoajpgaa.Adl

namespace Go.Proofs.Ytmfacacpoajpgaa.Crc
/-- The number through a list of bytes. -/
def one (c : Nat) (x : Int) : Nat := halves 8 (c ^^^ x.toNat)
def cr (c : Nat) (xs : List Int) : Nat := xs.foldl one c
theorem cr_nil (c : Nat) : cr c [] = c := List.foldl_nil
theorem cr_cons (c : Nat) (x : Int) (xs : List Int) : cr c (x :: xs) = cr (one c x) xs := List.foldl_cons ..

theorem cr_append (c : Nat) (xs ys : List Int) : cr c (xs ++ ys) = cr (cr c xs) ys := List.foldl_append ..

theorem cr_snoc (c : Nat) (xs : List Int) (x : Int) : cr c (xs ++ [x]) = one (cr c xs) x := by
  rw [cr_append, cr_cons, cr_nil]

theorem one_xor (c d : Nat) (x : Int) : one (c ^^^ d) x = one c x ^^^ halves 8 d := by
  unfold one
  rw [Nat.xor_assoc, Nat.xor_comm d, ← Nat.xor_assoc, halves_xor]

theorem cr_xor (c d : Nat) (xs : List Int) : cr (c ^^^ d) xs = cr c xs ^^^ halves (8 * xs.length) d := by
  induction xs generalizing c d with
  | nil => rw [cr_nil, cr_nil]; rfl
  | cons x xs ih =>
    rw [cr_cons, cr_cons, one_xor, ih, ← halves_add, List.length_cons, Nat.mul_add]

theorem one_lt (c : Nat) (x : Int) (hc : c < 4294967296) (h : 0 ≤ x ∧ x ≤ 255) : one c x < 4294967296 := by
  unfold one
  refine halves_lt _ _ (Nat.xor_lt_two_pow (n := 32) hc ?_)
  omega

theorem cr_lt (c : Nat) (xs : List Int) (hc : c < 4294967296) (h : ∀ x ∈ xs, 0 ≤ x ∧ x ≤ 255) : cr c xs < 4294967296 := by
  induction xs generalizing c with
  | nil => rw [cr_nil]; exact hc
  | cons x xs ih =>
    rw [cr_cons]
    exact ih _ (one_lt c x hc (h x (by simp))) (fun z hz => h z (by simp [hz]))

/-- A text's sum. -/
def crc (xs : List Int) : Nat := cr 4294967295 xs ^^^ 4294967295

theorem xor_xor (a b : Nat) : a ^^^ b ^^^ b = a := by rw [Nat.xor_assoc, Nat.xor_self, Nat.xor_zero]

theorem join_eq (xs ys : List Int) : halves (8 * ys.length) (crc xs) ^^^ crc ys = crc (xs ++ ys) := by
  unfold crc
  rw [cr_append]
  have h := cr_xor 4294967295 (4294967295 ^^^ cr 4294967295 xs) ys
  rw [← Nat.xor_assoc, Nat.xor_self, Nat.zero_xor] at h
  rw [h, Nat.xor_comm (cr 4294967295 xs), ← Nat.xor_assoc, Nat.xor_comm (halves _ _)]

theorem compl (c : Nat) (h : c < 4294967296) : c ^^^ 4294967295 = 4294967295 - c := by
  apply Nat.eq_of_testBit_eq
  intro i
  have h1 := Nat.testBit_two_pow_sub_succ (n := 32) (x := c) (by simpa using h) i
  have h2 := Nat.testBit_two_pow_sub_one 32 i
  rw [show (2 : Nat) ^ 32 - (c + 1) = 4294967295 - c from by omega] at h1
  rw [show (2 : Nat) ^ 32 - 1 = 4294967295 from rfl] at h2
  rw [Nat.testBit_xor, h1, h2]
  by_cases hi : i < 32
  · simp [hi]
  · have h3 : c.testBit i = false := Nat.testBit_lt_two_pow (Nat.lt_of_lt_of_le h (by
      have : 2 ^ 32 ≤ 2 ^ i := Nat.pow_le_pow_right (by omega) (by omega)
      simpa using this))
    simp [hi, h3]
end Go.Proofs.Ytmfacacpoajpgaa.Crc
