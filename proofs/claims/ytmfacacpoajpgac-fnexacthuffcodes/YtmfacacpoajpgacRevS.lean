import Derived.Test.YtmfacacpoajpgacRev
import Derived.Test.YtmfacacpoajpgacHKS
namespace Go.Proofs.Ytmfacacpoajpgac
open Go.RowKit
attribute [local go_sem ↓] Go.wp_at_zero Go.wp_at_succ
set_option linter.unusedVariables false

theorem u64_and (a b : Nat) (ha : a < 2 ^ 64) (hb : b < 2 ^ 64) : bits .and .u64 (a : Int) (b : Int) = ((a &&& b : Nat) : Int) := by
  show IntKind.u64.wrap ((BitVec.ofInt 64 a &&& BitVec.ofInt 64 b).toNat : Nat) = _
  rw [BitVec.toNat_and, BitVec.ofInt_natCast, BitVec.ofInt_natCast, BitVec.toNat_ofNat, BitVec.toNat_ofNat, Nat.mod_eq_of_lt ha, Nat.mod_eq_of_lt hb, IntKind.wrap_u64]
  have : a &&& b < 2 ^ 64 := Nat.lt_of_le_of_lt Nat.and_le_left ha
  omega
theorem u64_or (a b : Nat) (ha : a < 2 ^ 64) (hb : b < 2 ^ 64) : bits .or .u64 (a : Int) (b : Int) = ((a ||| b : Nat) : Int) := by
  show IntKind.u64.wrap ((BitVec.ofInt 64 a ||| BitVec.ofInt 64 b).toNat : Nat) = _
  rw [BitVec.toNat_or, BitVec.ofInt_natCast, BitVec.ofInt_natCast, BitVec.toNat_ofNat, BitVec.toNat_ofNat, Nat.mod_eq_of_lt ha, Nat.mod_eq_of_lt hb, IntKind.wrap_u64]
  have : a ||| b < 2 ^ 64 := Nat.or_lt_two_pow ha hb
  omega
/-- One step's facts, as the walk spells them. -/
theorem stepG (s m x : Nat) (M K : Int) (hM : M = (m : Int)) (hK : K = ((2 ^ s : Nat) : Int)) (hx : x < 2 ^ 64) (hm : m < 2 ^ 64) (hms : m * 2 ^ s < 2 ^ 64) :
    ∃ A B C y : Nat, bits .and .u64 ((x : Int) / K) M = (A : Int) ∧ bits .and .u64 (x : Int) M = (B : Int) ∧ IntKind.u64.wrap ((B : Int) * K) = (C : Int) ∧ bits .or .u64 (A : Int) (C : Int) = (y : Int) ∧ y < 2 ^ 64 ∧ y = swp s m x := by
  subst hM hK
  have h1 : (x : Int) / ((2 ^ s : Nat) : Int) = ((x >>> s : Nat) : Int) := by rw [Nat.shiftRight_eq_div_pow]; exact (Int.natCast_ediv x (2 ^ s)).symm
  have hB : x &&& m < 2 ^ 64 := Nat.lt_of_le_of_lt Nat.and_le_left hx
  have hA : x >>> s &&& m < 2 ^ 64 := Nat.lt_of_le_of_lt Nat.and_le_right hm
  have hC : (x &&& m) <<< s < 2 ^ 64 := by
    rw [Nat.shiftLeft_eq]
    exact Nat.lt_of_le_of_lt (Nat.mul_le_mul_right _ Nat.and_le_right) hms
  refine ⟨x >>> s &&& m, x &&& m, (x &&& m) <<< s, swp s m x, ?_, u64_and _ _ hx hm, ?_, u64_or _ _ hA hC, Nat.or_lt_two_pow hA hC, rfl⟩
  · rw [h1]
    exact u64_and _ _ (Nat.lt_of_le_of_lt (Nat.shiftRight_le _ _) hx) hm
  · rw [Nat.shiftLeft_eq] at hC ⊢
    rw [← Int.natCast_mul, IntKind.wrap_u64]
    omega
/-- The last step has no mask. -/
theorem stepL (x : Nat) (hx : x < 2 ^ 64) : ∃ A C y : Nat, (x : Int) / 4294967296 = (A : Int) ∧ IntKind.u64.wrap ((x : Int) * 4294967296) = (C : Int) ∧ bits .or .u64 (A : Int) (C : Int) = (y : Int) ∧ y = swp 32 m32 x := by
  have e1 : x >>> 32 &&& m32 = x / 4294967296 := by
    rw [show m32 = 2 ^ 32 - 1 from rfl, Nat.and_two_pow_sub_one_eq_mod, Nat.shiftRight_eq_div_pow]
    omega
  have e2 : (x &&& m32) <<< 32 = x % 4294967296 * 4294967296 := by
    rw [show m32 = 2 ^ 32 - 1 from rfl, Nat.and_two_pow_sub_one_eq_mod, Nat.shiftLeft_eq]
  refine ⟨x / 4294967296, x % 4294967296 * 4294967296, swp 32 m32 x, by omega, ?_, ?_, rfl⟩
  · rw [IntKind.wrap_u64]; omega
  · unfold swp
    rw [e1, e2]
    exact u64_or _ _ (by omega) (by omega)

set_option maxHeartbeats 1600000 in
theorem revBytes_any (x : Nat) (hx : x < 2 ^ 64) (w : World) : Calls Try.prog 67 #[.int .u64 x] w fun e w' => e = .returned (.int .u64 (swp 32 m32 (swp 16 m16 (swp 8 m8 x)) : Nat)) ∧ w' = w := by
  obtain ⟨A1, B1, C1, y1, h1, h2, h3, h4, l1, e1⟩ := stepG 8 m8 x 71777214294589695 256 rfl rfl hx (by decide) (by decide)
  obtain ⟨A2, B2, C2, y2, k1, k2, k3, k4, l2, e2⟩ := stepG 16 m16 y1 281470681808895 65536 rfl rfl l1 (by decide) (by decide)
  obtain ⟨A3, C3, y3, g1, g3, g4, e3⟩ := stepL y2 l2
  have HE : Hid (y3 = swp 32 m32 (swp 16 m16 (swp 8 m8 x))) := by show _ = _; rw [e3, e2, e1]
  clear e1 e2 e3 hx l1 l2
  go_enter Try.func67, Try.ntmps67
  go_wp2_with fail
  go_ret
  exact ⟨by rw [← HE.out]; rfl, rfl⟩

set_option maxHeartbeats 1600000 in
theorem reverse_any (x : Nat) (hx : x < 2 ^ 64) (w : World) : Calls Try.prog 59 #[.int .u64 x] w fun e w' => e = .returned (.int .u64 (rev64 x : Nat)) ∧ w' = w := by
  obtain ⟨A1, B1, C1, y1, h1, h2, h3, h4, l1, e1⟩ := stepG 1 m1 x 6148914691236517205 2 rfl rfl hx (by decide) (by decide)
  obtain ⟨A2, B2, C2, y2, k1, k2, k3, k4, l2, e2⟩ := stepG 2 m2 y1 3689348814741910323 4 rfl rfl l1 (by decide) (by decide)
  obtain ⟨A3, B3, C3, y3, g1, g2, g3, g4, l3, e3⟩ := stepG 4 m4 y2 1085102592571150095 16 rfl rfl l2 (by decide) (by decide)
  have HR := hideH (revBytes_any y3 l3 w)
  have HE : Hid (swp 32 m32 (swp 16 m16 (swp 8 m8 y3)) = rev64 x) := by show _ = _; rw [e3, e2, e1]; rfl
  rw [HE.out] at HR
  clear e1 e2 e3 hx l1 l2 l3
  go_enter Try.func59, Try.ntmps59
  go_wp2_with fail
  refine Calls.mono HR.out ?_
  rintro e w1 ⟨rfl, rfl⟩
  go_wp2_with fail
  go_ret
  exact ⟨rfl, rfl⟩

set_option maxHeartbeats 1600000 in
theorem turnRound_any (x l : Nat) (hx : x < 2 ^ 64) (h0 : 1 ≤ l) (h1 : l ≤ 15) (w : World) : Calls Try.prog 43 #[.int .u64 x, .int .i64 l] w fun e w' => e = .returned (.int .u64 (tr x l : Nat)) ∧ w' = w := by
  have HR := hideH (reverse_any x hx w)
  have HT := hideH (rev_turn x l (by omega))
  obtain ⟨R, hR⟩ : ∃ R, rev64 x = R := ⟨_, rfl⟩
  rw [hR] at HR HT
  obtain ⟨k, hk⟩ : ∃ k : Nat, 64 - (l : Int) = (k : Int) := ⟨64 - l, by omega⟩
  have hk0 : 49 ≤ k := by omega
  have hk1 : k < 64 := by omega
  have HKL : Hid (k = 64 - l) := by show _ = _; omega
  clear hR
  go_enter Try.func43, Try.ntmps43
  go_wp2_with fail
  refine Calls.mono HR.out ?_
  rintro e w1 ⟨rfl, rfl⟩
  have hE : (R : Int) / 2 ^ k = ((tr x l : Nat) : Int) := by
    rw [← HT.out, ← HKL.out, Nat.shiftRight_eq_div_pow, Int.natCast_ediv, Int.natCast_pow]
    rfl
  have HE := hideH hE
  clear hE
  go_wp2_with fail
  go_ret
  exact ⟨by rw [← HE.out]; rfl, rfl⟩

set_option maxHeartbeats 1600000 in
theorem l3Turn_any (x n : Nat) (hx : x < 1099511627776) (hn : n ≤ 15) (w : World) : Calls Try.prog 39 #[.int .i64 x, .int .i64 n] w fun e w' => e = .returned (.int .u64 (tr x n : Nat)) ∧ w' = w := by
  go_enter Try.func39, Try.ntmps39
  go_wp2_with fail
  go_loop [0, 5, 6] (fun y o i => ∃ (k X O : Nat), k ≤ n ∧ i = .int .i64 k ∧ y = .int .i64 X ∧ o = .int .u64 O ∧ X < 1099511627776 ∧ O < 32768 ∧ Hid (turn X (n - k) O = tr x n) ∧ Hid (O < 2 ^ k)) (fun _ _ i => n - (intOf i).toNat)
  case atStart => exact ⟨0, x, 0, by omega, rfl, rfl, rfl, hx, by omega, (rfl : turn x (n - 0) 0 = tr x n), (by decide : 0 < 2 ^ 0)⟩
  case round =>
    obtain ⟨k, X, O, hk, rfl, rfl, rfl, hX, hO, HT, HP⟩ := hrel
    by_cases hlt : k < n
    · have HT2 : Hid (turn (X / 2) (n - (k + 1)) (2 * O + X % 2) = tr x n) := by
        show _ = _
        rw [← HT.out, show n - k = (n - (k + 1)) + 1 by omega]
        rfl
      have HP2 : Hid (2 * O + X % 2 < 2 ^ (k + 1)) := by
        show _ < _
        have := HP.out
        rw [Nat.pow_succ]
        omega
      have hO2 : 2 * O + X % 2 < 32768 := Nat.lt_of_lt_of_le HP2.out (Nat.pow_le_pow_right (by decide) (by omega : k + 1 ≤ 15))
      go_wp2_with fail
      go_round
      case rel => exact ⟨k + 1, X / 2, 2 * O + X % 2, by omega, by go_num, by go_num, by go_num, by omega, hO2, HT2, HP2⟩
      case measure => simp [intOf]; omega
    · have e : k = n := by omega
      have hE : O = tr x n := by rw [← HT.out, e, Nat.sub_self]; rfl
      have HE := hideH hE
      clear hE e
      go_wp2_with fail
      go_ret
      exact ⟨by rw [← HE.out]; rfl, rfl⟩

end Go.Proofs.Ytmfacacpoajpgac
