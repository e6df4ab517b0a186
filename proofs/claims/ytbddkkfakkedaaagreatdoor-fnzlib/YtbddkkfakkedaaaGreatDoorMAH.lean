import Derived.Test.YtbddkkfakkedaaaGreatDoorProg
import Derived.WalkKit
import Derived.WalkSpells
import Derived.WalkLawsBesides
import Derived.BigQuiet
import Derived.Laws.BitsAllLaws
/-
  PLAIN MATHEMATICS of the CRC: one bit of division is linear over xor; the product of two polynomials by shifts and steps; x^(8n) by squaring. No Go, no program.
-/
namespace Go.Proofs.YtbddkkfakkedaaaGreatDoor.Crc

/-- One bit of division. -/
def half (c : Nat) : Nat := if c % 2 = 1 then (c / 2) ^^^ 3988292384 else c / 2

/-- 'n' bits of division. -/
def halves : Nat → Nat → Nat
  | 0, c => c
  | n + 1, c => halves n (half c)

theorem xor_half (x y : Nat) : (x ^^^ y) / 2 = (x / 2) ^^^ (y / 2) := by
  have := @Nat.shiftRight_xor_distrib 1 x y
  simpa [Nat.shiftRight_succ] using this

theorem xor_mod (x y : Nat) : (x ^^^ y) % 2 = (x % 2 + y % 2) % 2 := by
  have h := Nat.testBit_xor x y 0
  simp only [Nat.testBit_zero] at h
  have hz := Nat.mod_two_eq_zero_or_one (x ^^^ y)
  rcases Nat.mod_two_eq_zero_or_one x with hx | hx <;> rcases Nat.mod_two_eq_zero_or_one y with hy | hy <;> rcases hz with hz | hz <;> rw [hx, hy, hz] at h <;> simp at h <;> omega

theorem half_xor (x y : Nat) : half (x ^^^ y) = half x ^^^ half y := by
  unfold half
  rw [xor_half, xor_mod]
  have key : ∀ a b c : Nat, (a ^^^ b) ^^^ c = (a ^^^ c) ^^^ b := by
    intro a b c; rw [Nat.xor_assoc, Nat.xor_comm b c, ← Nat.xor_assoc]
  rcases Nat.mod_two_eq_zero_or_one x with hx | hx <;> rcases Nat.mod_two_eq_zero_or_one y with hy | hy <;> simp only [hx, hy]
  · simp
  · simp [Nat.xor_assoc]
  · simp; rw [key]
  · simp
    rw [Nat.xor_assoc (x / 2), Nat.xor_comm 3988292384, Nat.xor_assoc, Nat.xor_self, Nat.xor_zero]

theorem half_zero : half 0 = 0 := by decide

theorem half_lt (x : Nat) (h : x < 4294967296) : half x < 4294967296 := by
  unfold half
  split
  · exact Nat.xor_lt_two_pow (n := 32) (by omega) (by decide)
  · omega

theorem halves_zero (n : Nat) : halves n 0 = 0 := by
  induction n with
  | zero => rfl
  | succ n ih => rw [halves, half_zero, ih]

theorem halves_xor (n x y : Nat) : halves n (x ^^^ y) = halves n x ^^^ halves n y := by
  induction n generalizing x y with
  | zero => rfl
  | succ n ih => rw [halves, half_xor, ih]; rfl

theorem halves_add (m n x : Nat) : halves (m + n) x = halves m (halves n x) := by
  induction n generalizing x with
  | zero => rfl
  | succ n ih => rw [← Nat.add_assoc, halves, ih]; rfl

theorem halves_succ (n x : Nat) : halves (n + 1) x = half (halves n x) := by
  rw [Nat.add_comm, halves_add]; rfl

theorem halves_lt (n x : Nat) (h : x < 4294967296) : halves n x < 4294967296 := by
  induction n generalizing x with
  | zero => exact h
  | succ n ih => exact ih _ (half_lt x h)

/-- What 'times' has gathered after j rounds: the bits of a from the highest on. -/
def gather (a b : Nat) : Nat → Nat
  | 0 => 0
  | j + 1 => gather a b j ^^^ (if a.testBit (31 - j) then halves j b else 0)

def times (a b : Nat) : Nat := gather a b 32

theorem gather_lt (a b j : Nat) (h : b < 4294967296) : gather a b j < 4294967296 := by
  induction j with
  | zero => exact (by decide : (0 : Nat) < 4294967296)
  | succ j ih =>
    unfold gather
    refine Nat.xor_lt_two_pow (n := 32) ih ?_
    split
    · exact halves_lt j b h
    · decide

theorem times_lt (a b : Nat) (h : b < 4294967296) : times a b < 4294967296 := gather_lt a b 32 h

/-- 'times a' is linear and commutes with 'half'. -/
theorem gather_xor (a x y j : Nat) : gather a (x ^^^ y) j = gather a x j ^^^ gather a y j := by
  induction j with
  | zero => exact (Nat.xor_self 0).symm
  | succ j ih =>
    simp only [gather]
    rw [ih]
    split
    · rw [halves_xor]
      rw [Nat.xor_assoc, Nat.xor_assoc, ← Nat.xor_assoc (gather a y j), Nat.xor_comm (gather a y j) (halves j x), Nat.xor_assoc]
    · simp

theorem gather_half (a x j : Nat) : gather a (half x) j = half (gather a x j) := by
  induction j with
  | zero => exact half_zero.symm
  | succ j ih =>
    simp only [gather]
    rw [half_xor, ih]
    congr 1
    split
    · rw [← halves_succ]; rfl
    · exact half_zero.symm

theorem times_halves (a x n : Nat) : times a (halves n x) = halves n (times a x) := by
  induction n generalizing x with
  | zero => rfl
  | succ n ih => rw [halves, ih]; unfold times; rw [gather_half]; rfl

theorem times_xor (a x y : Nat) : times a (x ^^^ y) = times a x ^^^ times a y := gather_xor a x y 32

theorem times_zero (a : Nat) : times a 0 = 0 := by
  have h := times_xor a 0 0
  rw [Nat.xor_self, Nat.xor_self] at h
  exact h

/-- The orbit of one: x^j is the bit 31 - j. -/
theorem halves_one (j : Nat) (h : j ≤ 31) : halves j 2147483648 = 2 ^ (31 - j) := by
  induction j with
  | zero => decide
  | succ j ih =>
    rw [halves_succ, ih (by omega)]
    have e : 31 - j = (31 - (j + 1)) + 1 := by omega
    rw [e, Nat.pow_succ]
    unfold half
    rw [if_neg (by omega)]
    omega

/-- A number is the xor of its bits, gathered from the highest. -/
theorem gather_one (a j : Nat) (ha : a < 4294967296) (h : j ≤ 32) (i : Nat) :
    (gather a 2147483648 j).testBit i = (decide (32 - j ≤ i) && a.testBit i) := by
  induction j with
  | zero =>
    unfold gather
    by_cases hi : 32 ≤ i
    · have : a.testBit i = false := Nat.testBit_lt_two_pow (Nat.lt_of_lt_of_le ha (by
        have : 2 ^ 32 ≤ 2 ^ i := Nat.pow_le_pow_right (by omega) hi
        simpa using this))
      simp [this]
    · simp [hi]
  | succ j ih =>
    simp only [gather]
    rw [Nat.testBit_xor, ih (by omega), halves_one j (by omega)]
    by_cases hi : i = 31 - j
    · subst hi
      have h1 : decide (32 - j ≤ 31 - j) = false := decide_eq_false (by omega)
      have h2 : decide (32 - (j + 1) ≤ 31 - j) = true := decide_eq_true (by omega)
      rw [h1, h2]
      cases hb : a.testBit (31 - j)
      · simp
      · simp
    · have h3 : (if a.testBit (31 - j) = true then 2 ^ (31 - j) else 0).testBit i = false := by
        split
        · exact Nat.testBit_two_pow_of_ne (fun h => hi h.symm)
        · simp
      rw [h3, Bool.xor_false]
      have h4 : decide (32 - j ≤ i) = decide (32 - (j + 1) ≤ i) := by
        rw [Bool.eq_iff_iff]; simp; omega
      rw [h4]

theorem times_one_right (a : Nat) (ha : a < 4294967296) : times a 2147483648 = a := by
  apply Nat.eq_of_testBit_eq
  intro i
  unfold times
  rw [gather_one a 32 ha (Nat.le_refl _)]
  simp

/-- Any gathering of rounds goes through a linear map that commutes with 'half'. -/
theorem times_gather (u a x j : Nat) : times u (gather a x j) = gather a (times u x) j := by
  induction j with
  | zero => exact times_zero u
  | succ j ih =>
    simp only [gather]
    rw [times_xor, ih]
    congr 1
    split
    · exact times_halves u x j
    · exact times_zero u

theorem times_comm_map (u a x : Nat) : times u (times a x) = times a (times u x) := times_gather u a x 32

theorem times_comm (u v : Nat) (hu : u < 4294967296) (hv : v < 4294967296) : times u v = times v u := by
  have h := times_comm_map u v 2147483648
  rw [times_one_right v hv, times_one_right u hu] at h
  exact h

theorem times_assoc (u v x : Nat) (hv : v < 4294967296) (hx : x < 4294967296) :
    times (times u v) x = times u (times v x) := by
  rw [times_comm _ x (times_lt u v hv) hx, times_comm_map x u v, times_comm x v hx hv]

theorem times_one (x : Nat) (hx : x < 4294967296) : times 2147483648 x = x := by
  rw [times_comm _ _ (by decide) hx, times_one_right x hx]

theorem times_byte (x : Nat) (hx : x < 4294967296) : times 8388608 x = halves 8 x := by
  have h : (8388608 : Nat) = halves 8 2147483648 := by decide
  rw [times_comm _ _ (by decide) hx, h, times_halves, times_one_right x hx]

/-- 'n' times the product with s. -/
def pow (s : Nat) : Nat → Nat → Nat
  | 0, x => x
  | n + 1, x => pow s n (times s x)

theorem pow_lt (s n x : Nat) (h : x < 4294967296) : pow s n x < 4294967296 := by
  induction n generalizing x with
  | zero => exact h
  | succ n ih => exact ih _ (times_lt s x h)

theorem pow_square (s : Nat) (hs : s < 4294967296) (n x : Nat) (hx : x < 4294967296) : pow (times s s) n x = pow s (2 * n) x := by
  induction n generalizing x with
  | zero => rfl
  | succ n ih =>
    rw [pow, ih _ (times_lt _ x hx), times_assoc s s x hs hx]
    rfl

theorem pow_byte (n x : Nat) (hx : x < 4294967296) : pow 8388608 n x = halves (8 * n) x := by
  induction n generalizing x with
  | zero => rfl
  | succ n ih =>
    rw [pow, ih _ (times_lt _ x hx), times_byte x hx, ← halves_add]
    rfl

theorem times_pow (p s n x : Nat) : times p (pow s n x) = pow s n (times p x) := by
  induction n generalizing x with
  | zero => rfl
  | succ n ih => rw [pow, ih, times_comm_map]; rfl

/-- The loop of squares: the invariant's step. -/
theorem square_step (p s m x : Nat) (hs : s < 4294967296) (hx : x < 4294967296) :
    times (if m % 2 = 1 then times p s else p) (pow (times s s) (m / 2) x) = times p (pow s m x) := by
  rw [pow_square s hs _ x hx]
  split
  · rename_i h
    rw [times_assoc p s _ hs (pow_lt _ _ _ hx)]
    rw [times_pow s s]
    have e : m = 2 * (m / 2) + 1 := by omega
    conv => rhs; rw [e]
    rfl
  · have e : 2 * (m / 2) = m := by omega
    rw [e]

end Go.Proofs.YtbddkkfakkedaaaGreatDoor.Crc
namespace Go.Proofs.YtbddkkfakkedaaaGreatDoor
open Go.RowKit

theorem retci {k : IntKind} {a b : Int} (h : a = b) : Ending.returned (.int k a) = .returned (.int k b) := by rw [h]

theorem half_odd (c : Nat) (h1 : c < 4294967296) (h : c % 2 = 1) : bits .xor .u32 ((c : Int) / 2) 3988292384 = ((Crc.half c : Nat) : Int) := by
  have e : ((c : Int) / 2) = ((c / 2 : Nat) : Int) := by omega
  rw [e, show (3988292384 : Int) = ((3988292384 : Nat) : Int) from rfl, u32_xor_nat _ _ (by omega) (by decide)]
  unfold Crc.half
  rw [if_pos h]
theorem half_even (c : Nat) (h : ¬ c % 2 = 1) : ((c : Int) / 2) = ((Crc.half c : Nat) : Int) := by
  unfold Crc.half
  rw [if_neg h]
  omega
theorem andc_one (c : Nat) (h1 : c < 4294967296) : bits .and .u32 (c : Int) 1 = ((c % 2 : Nat) : Int) := by
  rw [show (1 : Int) = ((1 : Nat) : Int) from rfl, u32_and_nat _ _ h1 (by decide), Nat.and_one_is_mod]

/-- spec.l1Half. -/
theorem half_any (c : Nat) (h1 : c < 4294967296) (w : World) :
    Calls Tryz.prog 63 #[.int .u32 c] w fun e w' => e = .returned (.int .u32 (Crc.half c : Nat)) ∧ w' = w := by
  by_cases h : c % 2 = 1
  · have hb : ((c : Int) % 2 == 1) = true := by simp; omega
    go_enter Tryz.func63, Tryz.ntmps63
    go_wp2
    go_ret
    exact ⟨retci (half_odd c h1 h), rfl⟩
  · have hb : ((c : Int) % 2 == 1) = false := by simp; omega
    go_enter Tryz.func63, Tryz.ntmps63
    go_wp2
    go_ret
    exact ⟨retci (half_even c h), rfl⟩

/-- impl.crcStep. -/
theorem step_any (c : Nat) (h1 : c < 4294967296) (w : World) :
    Calls Tryz.prog 138 #[.int .u32 c] w fun e w' => e = .returned (.int .u32 (Crc.half c : Nat)) ∧ w' = w := by
  by_cases h : c % 2 = 1
  · have hb : (bits .and .u32 (c : Int) 1 == 1) = true := by rw [andc_one c h1]; simp; omega
    go_enter Tryz.func138, Tryz.ntmps138
    go_wp2
    go_ret
    exact ⟨retci (half_odd c h1 h), rfl⟩
  · have hb : (bits .and .u32 (c : Int) 1 == 1) = false := by rw [andc_one c h1]; simp; omega
    go_enter Tryz.func138, Tryz.ntmps138
    go_wp2
    go_ret
    exact ⟨retci (half_even c h), rfl⟩

/-! The bit that the loop of crcTimes looks at in round j. -/
def bitAt (j : Nat) : Nat := 4294967296 / 2 ^ (j + 1)
theorem bitAt_lt (j : Nat) : bitAt j < 4294967296 := by
  unfold bitAt
  exact Nat.div_lt_self (by decide) (Nat.one_lt_two_pow (by omega))
theorem bitAt_succ (j : Nat) : bitAt (j + 1) = bitAt j / 2 := by
  unfold bitAt
  rw [Nat.pow_succ 2 (j + 1), Nat.div_div_eq_div_mul]
theorem bitAt_in (j : Nat) (h : j < 32) : bitAt j = 2 ^ (31 - j) := by
  unfold bitAt
  have e : (4294967296 : Nat) = 2 ^ (31 - j) * 2 ^ (j + 1) := by
    rw [← Nat.pow_add, show 31 - j + (j + 1) = 32 from by omega]
  rw [e, Nat.mul_div_cancel _ (Nat.two_pow_pos _)]
theorem bitAt_out : bitAt 32 = 0 := by decide
theorem and_bit (a j : Nat) (h : j < 32) : a &&& bitAt j = if a.testBit (31 - j) then 2 ^ (31 - j) else 0 := by
  rw [bitAt_in j h]
  apply Nat.eq_of_testBit_eq
  intro i
  rw [Nat.testBit_and, Nat.testBit_two_pow]
  by_cases hi : 31 - j = i
  · subst hi
    cases a.testBit (31 - j) <;> simp
  · split <;> simp [hi]
theorem xor_int (a b : Nat) (ha : a < 4294967296) (hb : b < 4294967296) : bits .xor .u32 (a : Int) (b : Int) = ((a ^^^ b : Nat) : Int) := u32_xor_nat a b ha hb

/-- impl.crcTimes. -/
theorem times_any (a b : Nat) (ha : a < 4294967296) (hb : b < 4294967296) (w : World) :
    Calls Tryz.prog 95 #[.int .u32 a, .int .u32 b] w fun e w' => e = .returned (.int .u32 (Crc.times a b : Nat)) ∧ w' = w := by
  go_enter Tryz.func95, Tryz.ntmps95
  go_wp2
  go_loop [1, 5, 6] (fun b' p bit => ∃ j : Nat, j ≤ 32 ∧ b' = .int .u32 (Crc.halves j b : Nat) ∧ p = .int .u32 (Crc.gather a b j : Nat) ∧ bit = .int .u32 (bitAt j : Nat)) (fun _ _ bit => (intOf bit).toNat)
  case atStart => exact ⟨0, by omega, rfl, rfl, rfl⟩
  case round =>
    obtain ⟨j, hj, rfl, rfl, rfl⟩ := hrel
    have hx := Crc.halves_lt j b hb
    have hg := Crc.gather_lt a b j hb
    have hbl := bitAt_lt j
    by_cases hlt : j < 32
    · have hpos : 0 < bitAt j := by rw [bitAt_in j hlt]; exact Nat.two_pow_pos _
      have hn : ((bitAt j : Int) != 0) = true := by simp; omega
      have hs := bitAt_succ j
      have Hs : Hid (bitAt (j + 1) = bitAt j / 2) := hs
      clear hs
      by_cases ht : a.testBit (31 - j) = true
      · have hta : (bits .and .u32 (a : Int) (bitAt j : Int) != 0) = true := by
          rw [u32_and_nat a _ ha hbl, and_bit a j hlt, if_pos ht]
          have := Nat.two_pow_pos (31 - j)
          generalize (2 : Nat) ^ (31 - j) = q at *
          simp; omega
        have HG : Hid (bits .xor .u32 (Crc.gather a b j : Int) (Crc.halves j b : Int) = ((Crc.gather a b (j + 1) : Nat) : Int)) := by
          show bits .xor .u32 (Crc.gather a b j : Int) (Crc.halves j b : Int) = ((Crc.gather a b (j + 1) : Nat) : Int)
          rw [u32_xor_nat _ _ hg hx]
          simp [Crc.gather, ht]
        clear ht
        go_wp2_with (go_at_call 138; refine (step_any _ hx _).mono ?_; rintro e w' ⟨rfl, rfl⟩)
        go_round
        case rel => exact ⟨j + 1, by omega, by rw [Crc.halves_succ], by rw [HG.out], by rw [Hs.out]; go_num⟩
        case measure => simp [intOf]; omega
      · have hta : (bits .and .u32 (a : Int) (bitAt j : Int) != 0) = false := by
          rw [u32_and_nat a _ ha hbl, and_bit a j hlt, if_neg ht]
          simp
        have HG : Hid (Crc.gather a b (j + 1) = Crc.gather a b j) := by
          show Crc.gather a b (j + 1) = Crc.gather a b j
          simp [Crc.gather, ht]
        clear ht
        go_wp2_with (go_at_call 138; refine (step_any _ hx _).mono ?_; rintro e w' ⟨rfl, rfl⟩)
        go_round
        case rel => exact ⟨j + 1, by omega, by rw [Crc.halves_succ], by rw [HG.out], by rw [Hs.out]; go_num⟩
        case measure => simp [intOf]; omega
    · have e : j = 32 := by omega
      subst e
      have hn : ((bitAt 32 : Int) != 0) = false := by rw [bitAt_out]; rfl
      go_wp2
      go_ret
      exact ⟨rfl, rfl⟩

theorem i64_and_one (m : Int) : bits .and .i64 m 1 = m % 2 := by
  have h1 : (BitVec.ofInt 64 1).toNat = 2 ^ 1 - 1 := by decide
  have key : (BitVec.ofInt 64 m &&& BitVec.ofInt 64 1).toNat = (m % ((2 ^ 64 : Nat) : Int)).toNat % 2 ^ 1 := by
    rw [BitVec.toNat_and, BitVec.toNat_ofInt, h1, Nat.and_two_pow_sub_one_eq_mod]
  show IntKind.i64.wrap ((BitVec.ofInt 64 m &&& BitVec.ofInt 64 1).toNat : Nat) = m % 2
  rw [key, IntKind.wrap_i64]
  omega

/-- What the loop of squares keeps. -/
def Powers (n m p s : Nat) : Prop := ∀ x : Nat, x < 4294967296 → Crc.times p (Crc.pow s m x) = Crc.halves (8 * n) x
theorem Powers.start (n : Nat) : Powers n n 2147483648 8388608 := by
  intro x hx
  rw [Crc.times_one _ (Crc.pow_lt _ _ _ hx), Crc.pow_byte n x hx]
theorem Powers.odd {n m p s : Nat} (h : Powers n m p s) (hs : s < 4294967296) (ho : m % 2 = 1) : Powers n (m / 2) (Crc.times p s) (Crc.times s s) := by
  intro x hx
  have := Crc.square_step p s m x hs hx
  rw [if_pos ho] at this
  rw [this]
  exact h x hx
theorem Powers.even {n m p s : Nat} (h : Powers n m p s) (hs : s < 4294967296) (ho : ¬ m % 2 = 1) : Powers n (m / 2) p (Crc.times s s) := by
  intro x hx
  have := Crc.square_step p s m x hs hx
  rw [if_neg ho] at this
  rw [this]
  exact h x hx
theorem Powers.done {n p s : Nat} (h : Powers n 0 p s) : ∀ x : Nat, x < 4294967296 → Crc.times p x = Crc.halves (8 * n) x := h

theorem half_nat (m : Nat) : Value.int .i64 ((m : Int) / 2) = Value.int .i64 ((m / 2 : Nat) : Int) := congrArg (Value.int .i64) (by omega)

/-- impl.crcPowerOfByte: taken as a map on what it multiplies. -/
theorem power_any (n : Nat) (hn : n ≤ 1000000) (w : World) :
    Calls Tryz.prog 96 #[.int .i64 n] w fun e w' => (∃ p : Nat, e = .returned (.int .u32 p) ∧ p < 4294967296 ∧ ∀ x : Nat, x < 4294967296 → Crc.times p x = Crc.halves (8 * n) x) ∧ w' = w := by
  go_enter Tryz.func96, Tryz.ntmps96
  go_wp2
  go_loop [0, 3, 4] (fun m p s => ∃ m' p' s' : Nat, m = .int .i64 m' ∧ p = .int .u32 p' ∧ s = .int .u32 s' ∧ m' ≤ 1000000 ∧ p' < 4294967296 ∧ s' < 4294967296 ∧ Powers n m' p' s') (fun m _ _ => (intOf m).toNat)
  case atStart => exact ⟨n, 2147483648, 8388608, rfl, rfl, rfl, hn, by decide, by decide, Powers.start n⟩
  case round =>
    obtain ⟨m, p, s, rfl, rfl, rfl, hm, hp, hs, HI⟩ := hrel
    have hss := Crc.times_lt s s hs
    have hps := Crc.times_lt p s hs
    by_cases hlt : 0 < m
    · by_cases ho : m % 2 = 1
      · have hb : (bits .and .i64 (m : Int) 1 == 1) = true := by rw [i64_and_one]; simp; omega
        have HN := HI.odd hs ho
        clear ho HI
        go_wp2_with fail
        refine (times_any p s hp hs _).mono ?_
        rintro e w' ⟨rfl, rfl⟩
        go_wp2_with fail
        refine (times_any s s hs hs _).mono ?_
        rintro e w' ⟨rfl, rfl⟩
        go_wp2_with fail
        go_round
        case rel => exact ⟨m / 2, _, _, half_nat m, rfl, rfl, by omega, hps, hss, HN⟩
        case measure => simp [intOf]; omega
      · have hb : (bits .and .i64 (m : Int) 1 == 1) = false := by rw [i64_and_one]; simp; omega
        have HN := HI.even hs ho
        clear ho HI
        go_wp2_with fail
        refine (times_any s s hs hs _).mono ?_
        rintro e w' ⟨rfl, rfl⟩
        go_wp2_with fail
        go_round
        case rel => exact ⟨m / 2, _, _, half_nat m, rfl, rfl, by omega, hp, hss, HN⟩
        case measure => simp [intOf]; omega
    · have e : m = 0 := by omega
      subst e
      go_wp2
      go_ret
      exact ⟨⟨p, rfl, hp, HI.done⟩, rfl⟩

/-- impl.CrcJoin. -/
theorem cjoin_in (a b n : Nat) (ha : a < 4294967296) (hb : b < 4294967296) (hn : n ≤ 1000000) (w : World) :
    Calls Tryz.prog 61 #[.int .u32 a, .int .u32 b, .int .i64 n] w fun e w' => e = .returned (.int .u32 (Crc.halves (8 * n) a ^^^ b : Nat)) ∧ w' = w := by
  go_enter Tryz.func61, Tryz.ntmps61
  go_wp2_with fail
  refine (power_any n hn _).mono ?_
  rintro e w' ⟨⟨p, rfl, hp, HP⟩, rfl⟩
  have HE := HP a ha
  clear HP
  have hl := Crc.halves_lt (8 * n) a ha
  have HE' : Hid (Crc.times p a = Crc.halves (8 * n) a) := HE
  clear HE
  go_wp2_with fail
  refine (times_any p a hp ha _).mono ?_
  rintro e w' ⟨rfl, rfl⟩
  rw [HE'.out]
  go_wp2_with fail
  go_ret
  exact ⟨retci (xor_int _ _ hl hb), rfl⟩

theorem cjoin_out (a b n : Int) (h : n < 0 ∨ 1000000 < n) (w : World) :
    Calls Tryz.prog 61 #[.int .u32 a, .int .u32 b, .int .i64 n] w fun e w' => e = .returned (.int .u32 0) ∧ w' = w := by
  rcases h with h | h
  · go_enter Tryz.func61, Tryz.ntmps61
    go_wp2
    go_ret
    exact ⟨rfl, rfl⟩
  · have h' : ¬ n < 0 := by omega
    go_enter Tryz.func61, Tryz.ntmps61
    go_wp2
    go_ret
    exact ⟨rfl, rfl⟩

end Go.Proofs.YtbddkkfakkedaaaGreatDoor
