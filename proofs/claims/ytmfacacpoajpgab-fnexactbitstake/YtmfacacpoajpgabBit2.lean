import Derived.Test.YtmfacacpoajpgabTake
namespace Go.Proofs.Ytmfacacpoajpgab
open Go.RowKit
attribute [local go_sem ↓] Go.wp_at_zero Go.wp_at_succ
set_option linter.unusedVariables false

theorem bit_eq (x : Int) (s : Nat) (x0 : 0 ≤ x) (x1 : x ≤ 255) : (IntKind.u64.wrap (x / 2 ^ s)).tmod 2 = ((x.toNat / 2 ^ s % 2 : Nat) : Int) := by
  obtain ⟨X, rfl⟩ := Int.eq_ofNat_of_zero_le x0
  have e : (X : Int) / 2 ^ s = ((X / 2 ^ s : Nat) : Int) := by rw [pow_int]; simp
  have hd : X / 2 ^ s ≤ X := Nat.div_le_self _ _
  rw [e, Int.toNat_natCast]
  generalize X / 2 ^ s = Y at *
  have hw : IntKind.u64.wrap (Y : Int) = (Y : Int) := by rw [IntKind.wrap_u64]; omega
  rw [hw, Int.tmod_eq_emod_of_nonneg (by omega)]
  omega

set_option maxHeartbeats 1600000 in
/-- spec.l2Bit. -/
theorem l2Bit_any (ao : Option Addr) (cap : Nat) (zs : List Int) (i : Nat) (w : World) (hr : Row w ao zs) (hz : Octets zs) (hl : zs.length ≤ 1000000) (hi : i < 8 * zs.length) :
    Calls Try.prog 48 #[.slice ao zs.length cap, .int .i64 i] w fun e w' => e = .returned (.int .u64 (bnum zs / 2 ^ i % 2 : Nat)) ∧ w' = w := by
  obtain ⟨b, off, rfl, hc⟩ := hr.at (k := i / 8) (by omega)
  have hck := hc (i / 8) (by omega)
  have hzk := hz.getD (i / 8)
  have HB : Hid ((zs.getD (i / 8) 0).toNat / 2 ^ (i % 8) % 2 = bnum zs / 2 ^ i % 2) := bnum_bit zs hz i
  obtain ⟨j, hj⟩ : ∃ j : Nat, j = i / 8 := ⟨_, rfl⟩
  obtain ⟨r, hrr⟩ : ∃ r : Nat, r = i % 8 := ⟨_, rfl⟩
  have e1 : ((i : Int) / 8) = (j : Int) := by omega
  have e2 : ((i : Int) % 8) = (r : Int) := by omega
  have hjl : j < zs.length := by omega
  have hr7 : r ≤ 7 := by omega
  rw [← hj] at hck hzk HB
  rw [← hrr] at HB
  clear hc hr hj hrr
  generalize zs.getD j 0 = x at *
  generalize bnum zs / 2 ^ i % 2 = bt at *
  go_enter Try.func48, Try.ntmps48
  go_wp2_with fail
  go_ret
  exact ⟨ret_i (by rw [bit_eq x r hzk.1 hzk.2, HB.out]), rfl⟩

end Go.Proofs.Ytmfacacpoajpgab
