import Derived.Test.YtmfacacpoajpgaaProg
import Derived.Test.YtmfacacpoajpgaaCrc
import Derived.WalkKit
import Derived.WalkSpells
import Derived.WalkLawsBesides
import Derived.BigQuiet
import Derived.Laws.BitsAllLaws
namespace Go.Proofs.Ytmfacacpoajpgaa
open Go.RowKit

theorem retci {k : IntKind} {a b : Int} (h : a = b) : Ending.returned (.int k a) = .returned (.int k b) := by rw [h]

theorem half_odd (c : Nat) (h1 : c < 4294967296) (h : c % 2 = 1) : bits .xor .u32 ((c : Int) / 2) 3988292384 = ((Crc.half c : Nat) : Int) := by
  have e : ((c : Int) / 2) = ((c / 2 : Nat) : Int) := by omega
  rw [e, show (3988292384 : Int) = ((3988292384 : Nat) : Int) from rfl, u32_xor_nat _ _ (by omega) (by decide)]
  unfold Crc.half
  rw [if_pos h]
theorem half_even (c : Nat) (h : ¬ c % 2 = 1) : ((c : Int) / 2) = ((Crc.half c : Nat) : Int) := by
  unfold Crc.half
  rw [if_neg h]
  omega
theorem andc_one (c : Nat) (h1 : c < 4294967296) : bits .and .u32 (c : Int) 1 = ((c % 2 : Nat) : Int) := by
  rw [show (1 : Int) = ((1 : Nat) : Int) from rfl, u32_and_nat _ _ h1 (by decide), Nat.and_one_is_mod]

/-- spec.l1Half. -/
theorem half_any (c : Nat) (h1 : c < 4294967296) (w : World) :
    Calls Try.prog 34 #[.int .u32 c] w fun e w' => e = .returned (.int .u32 (Crc.half c : Nat)) ∧ w' = w := by
  by_cases h : c % 2 = 1
  · have hb : ((c : Int) % 2 == 1) = true := by simp; omega
    go_enter Try.func34, Try.ntmps34
    go_wp2
    go_ret
    exact ⟨retci (half_odd c h1 h), rfl⟩
  · have hb : ((c : Int) % 2 == 1) = false := by simp; omega
    go_enter Try.func34, Try.ntmps34
    go_wp2
    go_ret
    exact ⟨retci (half_even c h), rfl⟩

/-- impl.crcStep. -/
theorem step_any (c : Nat) (h1 : c < 4294967296) (w : World) :
    Calls Try.prog 61 #[.int .u32 c] w fun e w' => e = .returned (.int .u32 (Crc.half c : Nat)) ∧ w' = w := by
  by_cases h : c % 2 = 1
  · have hb : (bits .and .u32 (c : Int) 1 == 1) = true := by rw [andc_one c h1]; simp; omega
    go_enter Try.func61, Try.ntmps61
    go_wp2
    go_ret
    exact ⟨retci (half_odd c h1 h), rfl⟩
  · have hb : (bits .and .u32 (c : Int) 1 == 1) = false := by rw [andc_one c h1]; simp; omega
    go_enter Try.func61, Try.ntmps61
    go_wp2
    go_ret
    exact ⟨retci (half_even c h), rfl⟩

/-! The bit that the loop of crcTimes looks at in round j. -/
def bitAt (j : Nat) : Nat := 4294967296 / 2 ^ (j + 1)
theorem bitAt_lt (j : Nat) : bitAt j < 4294967296 := by
  unfold bitAt
  exact Nat.div_lt_self (by decide) (Nat.one_lt_two_pow (by omega))
theorem bitAt_succ (j : Nat) : bitAt (j + 1) = bitAt j / 2 := by
  unfold bitAt
  rw [Nat.pow_succ 2 (j + 1), Nat.div_div_eq_div_mul]
theorem bitAt_in (j : Nat) (h : j < 32) : bitAt j = 2 ^ (31 - j) := by
  unfold bitAt
  have e : (4294967296 : Nat) = 2 ^ (31 - j) * 2 ^ (j + 1) := by
    rw [← Nat.pow_add, show 31 - j + (j + 1) = 32 from by omega]
  rw [e, Nat.mul_div_cancel _ (Nat.two_pow_pos _)]
theorem bitAt_out : bitAt 32 = 0 := by decide
theorem and_bit (a j : Nat) (h : j < 32) : a &&& bitAt j = if a.testBit (31 - j) then 2 ^ (31 - j) else 0 := by
  rw [bitAt_in j h]
  apply Nat.eq_of_testBit_eq
  intro i
  rw [Nat.testBit_and, Nat.testBit_two_pow]
  by_cases hi : 31 - j = i
  · subst hi
    cases a.testBit (31 - j) <;> simp
  · split <;> simp [hi]
theorem xor_int (a b : Nat) (ha : a < 4294967296) (hb : b < 4294967296) : bits .xor .u32 (a : Int) (b : Int) = ((a ^^^ b : Nat) : Int) := u32_xor_nat a b ha hb

/-- impl.crcTimes. -/
theorem times_any (a b : Nat) (ha : a < 4294967296) (hb : b < 4294967296) (w : World) :
    Calls Try.prog 45 #[.int .u32 a, .int .u32 b] w fun e w' => e = .returned (.int .u32 (Crc.times a b : Nat)) ∧ w' = w := by
  go_enter Try.func45, Try.ntmps45
  go_wp2
  go_loop [1, 5, 6] (fun b' p bit => ∃ j : Nat, j ≤ 32 ∧ b' = .int .u32 (Crc.halves j b : Nat) ∧ p = .int .u32 (Crc.gather a b j : Nat) ∧ bit = .int .u32 (bitAt j : Nat)) (fun _ _ bit => (intOf bit).toNat)
  case atStart => exact ⟨0, by omega, rfl, rfl, rfl⟩
  case round =>
    obtain ⟨j, hj, rfl, rfl, rfl⟩ := hrel
    have hx := Crc.halves_lt j b hb
    have hg := Crc.gather_lt a b j hb
    have hbl := bitAt_lt j
    by_cases hlt : j < 32
    · have hpos : 0 < bitAt j := by rw [bitAt_in j hlt]; exact Nat.two_pow_pos _
      have hn : ((bitAt j : Int) != 0) = true := by simp; omega
      have hs := bitAt_succ j
      have Hs : Hid (bitAt (j + 1) = bitAt j / 2) := hs
      clear hs
      by_cases ht : a.testBit (31 - j) = true
      · have hta : (bits .and .u32 (a : Int) (bitAt j : Int) != 0) = true := by
          rw [u32_and_nat a _ ha hbl, and_bit a j hlt, if_pos ht]
          have := Nat.two_pow_pos (31 - j)
          generalize (2 : Nat) ^ (31 - j) = q at *
          simp; omega
        have HG : Hid (bits .xor .u32 (Crc.gather a b j : Int) (Crc.halves j b : Int) = ((Crc.gather a b (j + 1) : Nat) : Int)) := by
          show bits .xor .u32 (Crc.gather a b j : Int) (Crc.halves j b : Int) = ((Crc.gather a b (j + 1) : Nat) : Int)
          rw [u32_xor_nat _ _ hg hx]
          simp [Crc.gather, ht]
        clear ht
        go_wp2_with (go_at_call 61; refine (step_any _ hx _).mono ?_; rintro e w' ⟨rfl, rfl⟩)
        go_round
        case rel => exact ⟨j + 1, by omega, by rw [Crc.halves_succ], by rw [HG.out], by rw [Hs.out]; go_num⟩
        case measure => simp [intOf]; omega
      · have hta : (bits .and .u32 (a : Int) (bitAt j : Int) != 0) = false := by
          rw [u32_and_nat a _ ha hbl, and_bit a j hlt, if_neg ht]
          simp
        have HG : Hid (Crc.gather a b (j + 1) = Crc.gather a b j) := by
          show Crc.gather a b (j + 1) = Crc.gather a b j
          simp [Crc.gather, ht]
        clear ht
        go_wp2_with (go_at_call 61; refine (step_any _ hx _).mono ?_; rintro e w' ⟨rfl, rfl⟩)
        go_round
        case rel => exact ⟨j + 1, by omega, by rw [Crc.halves_succ], by rw [HG.out], by rw [Hs.out]; go_num⟩
        case measure => simp [intOf]; omega
    · have e : j = 32 := by omega
      subst e
      have hn : ((bitAt 32 : Int) != 0) = false := by rw [bitAt_out]; rfl
      go_wp2
      go_ret
      exact ⟨rfl, rfl⟩

theorem i64_and_one (m : Int) : bits .and .i64 m 1 = m % 2 := by
  have h1 : (BitVec.ofInt 64 1).toNat = 2 ^ 1 - 1 := by decide
  have key : (BitVec.ofInt 64 m &&& BitVec.ofInt 64 1).toNat = (m % ((2 ^ 64 : Nat) : Int)).toNat % 2 ^ 1 := by
    rw [BitVec.toNat_and, BitVec.toNat_ofInt, h1, Nat.and_two_pow_sub_one_eq_mod]
  show IntKind.i64.wrap ((BitVec.ofInt 64 m &&& BitVec.ofInt 64 1).toNat : Nat) = m % 2
  rw [key, IntKind.wrap_i64]
  omega

/-- What the loop of squares keeps. -/
def Powers (n m p s : Nat) : Prop := ∀ x : Nat, x < 4294967296 → Crc.times p (Crc.pow s m x) = Crc.halves (8 * n) x
theorem Powers.start (n : Nat) : Powers n n 2147483648 8388608 := by
  intro x hx
  rw [Crc.times_one _ (Crc.pow_lt _ _ _ hx), Crc.pow_byte n x hx]
theorem Powers.odd {n m p s : Nat} (h : Powers n m p s) (hs : s < 4294967296) (ho : m % 2 = 1) : Powers n (m / 2) (Crc.times p s) (Crc.times s s) := by
  intro x hx
  have := Crc.square_step p s m x hs hx
  rw [if_pos ho] at this
  rw [this]
  exact h x hx
theorem Powers.even {n m p s : Nat} (h : Powers n m p s) (hs : s < 4294967296) (ho : ¬ m % 2 = 1) : Powers n (m / 2) p (Crc.times s s) := by
  intro x hx
  have := Crc.square_step p s m x hs hx
  rw [if_neg ho] at this
  rw [this]
  exact h x hx
theorem Powers.done {n p s : Nat} (h : Powers n 0 p s) : ∀ x : Nat, x < 4294967296 → Crc.times p x = Crc.halves (8 * n) x := h

theorem half_nat (m : Nat) : Value.int .i64 ((m : Int) / 2) = Value.int .i64 ((m / 2 : Nat) : Int) := congrArg (Value.int .i64) (by omega)

/-- impl.crcPowerOfByte: taken as a map on what it multiplies. -/
theorem power_any (n : Nat) (hn : n ≤ 1000000) (w : World) :
    Calls Try.prog 46 #[.int .i64 n] w fun e w' => (∃ p : Nat, e = .returned (.int .u32 p) ∧ p < 4294967296 ∧ ∀ x : Nat, x < 4294967296 → Crc.times p x = Crc.halves (8 * n) x) ∧ w' = w := by
  go_enter Try.func46, Try.ntmps46
  go_wp2
  go_loop [0, 3, 4] (fun m p s => ∃ m' p' s' : Nat, m = .int .i64 m' ∧ p = .int .u32 p' ∧ s = .int .u32 s' ∧ m' ≤ 1000000 ∧ p' < 4294967296 ∧ s' < 4294967296 ∧ Powers n m' p' s') (fun m _ _ => (intOf m).toNat)
  case atStart => exact ⟨n, 2147483648, 8388608, rfl, rfl, rfl, hn, by decide, by decide, Powers.start n⟩
  case round =>
    obtain ⟨m, p, s, rfl, rfl, rfl, hm, hp, hs, HI⟩ := hrel
    have hss := Crc.times_lt s s hs
    have hps := Crc.times_lt p s hs
    by_cases hlt : 0 < m
    · by_cases ho : m % 2 = 1
      · have hb : (bits .and .i64 (m : Int) 1 == 1) = true := by rw [i64_and_one]; simp; omega
        have HN := HI.odd hs ho
        clear ho HI
        go_wp2_with fail
        refine (times_any p s hp hs _).mono ?_
        rintro e w' ⟨rfl, rfl⟩
        go_wp2_with fail
        refine (times_any s s hs hs _).mono ?_
        rintro e w' ⟨rfl, rfl⟩
        go_wp2_with fail
        go_round
        case rel => exact ⟨m / 2, _, _, half_nat m, rfl, rfl, by omega, hps, hss, HN⟩
        case measure => simp [intOf]; omega
      · have hb : (bits .and .i64 (m : Int) 1 == 1) = false := by rw [i64_and_one]; simp; omega
        have HN := HI.even hs ho
        clear ho HI
        go_wp2_with fail
        refine (times_any s s hs hs _).mono ?_
        rintro e w' ⟨rfl, rfl⟩
        go_wp2_with fail
        go_round
        case rel => exact ⟨m / 2, _, _, half_nat m, rfl, rfl, by omega, hp, hss, HN⟩
        case measure => simp [intOf]; omega
    · have e : m = 0 := by omega
      subst e
      go_wp2
      go_ret
      exact ⟨⟨p, rfl, hp, HI.done⟩, rfl⟩

/-- impl.CrcJoin. -/
theorem cjoin_in (a b n : Nat) (ha : a < 4294967296) (hb : b < 4294967296) (hn : n ≤ 1000000) (w : World) :
    Calls Try.prog 16 #[.int .u32 a, .int .u32 b, .int .i64 n] w fun e w' => e = .returned (.int .u32 (Crc.halves (8 * n) a ^^^ b : Nat)) ∧ w' = w := by
  go_enter Try.func16, Try.ntmps16
  go_wp2_with fail
  refine (power_any n hn _).mono ?_
  rintro e w' ⟨⟨p, rfl, hp, HP⟩, rfl⟩
  have HE := HP a ha
  clear HP
  have hl := Crc.halves_lt (8 * n) a ha
  have HE' : Hid (Crc.times p a = Crc.halves (8 * n) a) := HE
  clear HE
  go_wp2_with fail
  refine (times_any p a hp ha _).mono ?_
  rintro e w' ⟨rfl, rfl⟩
  rw [HE'.out]
  go_wp2_with fail
  go_ret
  exact ⟨retci (xor_int _ _ hl hb), rfl⟩

theorem cjoin_out (a b n : Int) (h : n < 0 ∨ 1000000 < n) (w : World) :
    Calls Try.prog 16 #[.int .u32 a, .int .u32 b, .int .i64 n] w fun e w' => e = .returned (.int .u32 0) ∧ w' = w := by
  rcases h with h | h
  · go_enter Try.func16, Try.ntmps16
    go_wp2
    go_ret
    exact ⟨rfl, rfl⟩
  · have h' : ¬ n < 0 := by omega
    go_enter Try.func16, Try.ntmps16
    go_wp2
    go_ret
    exact ⟨rfl, rfl⟩

theorem scjoin_out (a b n : Int) (h : n < 0 ∨ 1000000 < n) (w : World) :
    Calls Try.prog 18 #[.int .u32 a, .int .u32 b, .int .i64 n] w fun e w' => e = .returned (.int .u32 0) ∧ w' = w := by
  rcases h with h | h
  · go_enter Try.func18, Try.ntmps18
    go_wp2
    go_ret
    exact ⟨rfl, rfl⟩
  · have h' : ¬ n < 0 := by omega
    go_enter Try.func18, Try.ntmps18
    go_wp2
    go_ret
    exact ⟨rfl, rfl⟩

theorem scjoin_in (a b n : Nat) (ha : a < 4294967296) (hb : b < 4294967296) (hn : n ≤ 1000000) (w : World) :
    Calls Try.prog 18 #[.int .u32 a, .int .u32 b, .int .i64 n] w fun e w' => e = .returned (.int .u32 (Crc.halves (8 * n) a ^^^ b : Nat)) ∧ w' = w := by
  go_enter Try.func18, Try.ntmps18
  go_wp2
  go_loop [0, 7] (fun x i => ∃ j : Nat, j ≤ 8 * n ∧ x = .int .u32 (Crc.halves j a : Nat) ∧ i = .int .i64 j) (fun _ i => 8 * n - (intOf i).toNat)
  case atStart => exact ⟨0, by omega, rfl, rfl⟩
  case round =>
    obtain ⟨j, hj, rfl, rfl⟩ := hrel
    have hx := Crc.halves_lt j a ha
    by_cases hlt : j < 8 * n
    · go_wp2_with (go_at_call 34; refine (half_any _ hx _).mono ?_; rintro e w' ⟨rfl, rfl⟩)
      go_round
      case rel => exact ⟨j + 1, by omega, by rw [Crc.halves_succ], by go_num⟩
      case measure => simp [intOf]; omega
    · have e : j = 8 * n := by omega
      rw [e] at hx
      go_wp2
      go_ret
      exact ⟨retci (xor_int _ _ hx hb), rfl⟩

/-- The law. -/
theorem law_crcJoin (a b n : Int) (a0 : 0 ≤ a) (a1 : a < 4294967296) (b0 : 0 ≤ b) (b1 : b < 4294967296) (w : World) :
    Calls Try.prog 6 #[.int .u32 a, .int .u32 b, .int .i64 n] w fun e w' => e = .returned (.bool true) ∧ Grown w w' := by
  by_cases h : n < 0 ∨ 1000000 < n
  · go_enter Try.func6, Try.ntmps6
    go_wp2_with (first
      | (go_at_call 18; refine (scjoin_out a b n h _).mono ?_; rintro e w' ⟨rfl, rfl⟩)
      | (go_at_call 16; refine (cjoin_out a b n h _).mono ?_; rintro e w' ⟨rfl, rfl⟩))
    go_ret
    exact ⟨rfl, Grown.refl _⟩
  · obtain ⟨A, rfl⟩ := Int.eq_ofNat_of_zero_le a0
    obtain ⟨B, rfl⟩ := Int.eq_ofNat_of_zero_le b0
    obtain ⟨M, rfl⟩ := Int.eq_ofNat_of_zero_le (show 0 ≤ n by omega)
    go_enter Try.func6, Try.ntmps6
    go_wp2_with (first
      | (go_at_call 18; refine (scjoin_in A B M (by omega) (by omega) (by omega) _).mono ?_; rintro e w' ⟨rfl, rfl⟩)
      | (go_at_call 16; refine (cjoin_in A B M (by omega) (by omega) (by omega) _).mono ?_; rintro e w' ⟨rfl, rfl⟩))
    go_ret
    exact ⟨rfl, Grown.refl _⟩
end Go.Proofs.Ytmfacacpoajpgaa
