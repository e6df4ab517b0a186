/-
  THE NUMBER OF A LIST OF BYTES, the first the lowest; its bits. No program.
-/
import Derived.Test.YtmfacacpoajpgabMem
import Derived.Laws.BitsAllLaws
namespace Go.Proofs.Ytmfacacpoajpgab
open Go.RowKit

def bnum : List Int → Nat
  | [] => 0
  | z :: r => z.toNat + 256 * bnum r

theorem bnum_lt (zs : List Int) (h : Octets zs) : bnum zs < 256 ^ zs.length := by
  induction zs with
  | nil => decide
  | cons z r ih =>
    have h1 := h z (List.mem_cons_self)
    have h2 := ih (fun x hx => h x (List.mem_cons_of_mem _ hx))
    simp only [bnum, List.length_cons, Nat.pow_succ]
    omega

theorem bnum_append (xs ys : List Int) : bnum (xs ++ ys) = bnum xs + 256 ^ xs.length * bnum ys := by
  induction xs with
  | nil => simp [bnum]
  | cons z r ih =>
    simp only [List.cons_append, bnum, ih, List.length_cons, Nat.pow_succ]
    rw [Nat.mul_add, ← Nat.mul_assoc, Nat.mul_comm 256 (256 ^ r.length), Nat.add_assoc]

theorem Octets.take {zs : List Int} (h : Octets zs) (k : Nat) : Octets (zs.take k) := fun x hx => h x (List.mem_of_mem_take hx)
theorem Octets.drop {zs : List Int} (h : Octets zs) (k : Nat) : Octets (zs.drop k) := fun x hx => h x (List.mem_of_mem_drop hx)

theorem bnum_take_succ (zs : List Int) (k : Nat) (h : k < zs.length) : bnum (zs.take (k + 1)) = bnum (zs.take k) + (zs.getD k 0).toNat * 256 ^ k := by
  have e : zs.take (k + 1) = zs.take k ++ [zs.getD k 0] := by
    rw [List.take_succ_eq_append_getElem h]
    simp [List.getD, h]
  rw [e, bnum_append]
  simp [bnum, Nat.min_eq_left (Nat.le_of_lt h), Nat.mul_comm]

theorem two56 (k : Nat) : (256 : Nat) ^ k = 2 ^ (8 * k) := by
  rw [Nat.pow_mul]

/-- What lies below the first k bytes is told by them alone. -/
theorem bnum_low (zs : List Int) (k s n : Nat) (h : s + n ≤ 8 * k) : bnum (zs.take k) / 2 ^ s % 2 ^ n = bnum zs / 2 ^ s % 2 ^ n := by
  have e : bnum zs = bnum (zs.take k) + 256 ^ (zs.take k).length * bnum (zs.drop k) := by
    conv => lhs; rw [← List.take_append_drop k zs]
    exact bnum_append _ _
  by_cases hk : k ≤ zs.length
  · have hl : (zs.take k).length = k := by rw [List.length_take]; omega
    rw [e, hl, two56, show 8 * k = s + (8 * k - s) by omega, Nat.pow_add, Nat.mul_assoc, Nat.add_mul_div_left _ _ (Nat.two_pow_pos s),
      show 8 * k - s = n + (8 * k - s - n) by omega, Nat.pow_add, Nat.mul_assoc, Nat.add_mul_mod_self_left]
  · rw [List.take_of_length_le (by omega)]

/-- Bit j of a list of bytes. -/
theorem bnum_bit (zs : List Int) (hz : Octets zs) (j : Nat) : (zs.getD (j / 8) 0).toNat / 2 ^ (j % 8) % 2 = bnum zs / 2 ^ j % 2 := by
  induction zs generalizing j with
  | nil => simp [bnum]
  | cons z r ih =>
    have h1 := hz z (List.mem_cons_self)
    have h2 : Octets r := fun x hx => hz x (List.mem_cons_of_mem _ hx)
    by_cases hj : j < 8
    · have e0 : j / 8 = 0 := by omega
      have e1 : j % 8 = j := by omega
      rw [e0, e1]
      have := bnum_low (z :: r) 1 j 1 (by omega)
      simp only [List.take_succ_cons, List.take_zero, bnum, Nat.mul_zero, Nat.add_zero, Nat.pow_one] at this
      simpa [bnum] using this
    · obtain ⟨i, rfl⟩ : ∃ i, j = i + 8 := ⟨j - 8, by omega⟩
      have e0 : (i + 8) / 8 = i / 8 + 1 := by omega
      have e1 : (i + 8) % 8 = i % 8 := by omega
      rw [e0, e1]
      have hz0 : z.toNat < 256 := by omega
      have e2 : (z.toNat + 256 * bnum r) / 2 ^ (i + 8) = bnum r / 2 ^ i := by
        rw [Nat.pow_add, Nat.mul_comm (2 ^ i), ← Nat.div_div_eq_div_mul]
        congr 1
        show (z.toNat + 256 * bnum r) / 256 = bnum r
        omega
      simp only [bnum]
      rw [e2, ← ih h2 i]
      simp [List.getD]

/-- One bit more at the lowest place. -/
theorem mod_succ (M m : Nat) : M % 2 ^ (m + 1) = 2 * (M / 2 % 2 ^ m) + M % 2 := by
  rw [Nat.pow_succ, Nat.mul_comm (2 ^ m) 2, Nat.mod_mul]
  omega

/-- The number of n bits from bit s on. -/
def field (N s n : Nat) : Nat := N / 2 ^ s % 2 ^ n
theorem field_succ (N s m : Nat) : field N s (m + 1) = 2 * field N (s + 1) m + N / 2 ^ s % 2 := by
  unfold field
  rw [mod_succ, Nat.div_div_eq_div_mul, ← Nat.pow_succ]
theorem field_zero (N s : Nat) : field N s 0 = 0 := by unfold field; rw [Nat.pow_zero, Nat.mod_one]
theorem field_lt (N s n : Nat) : field N s n < 2 ^ n := Nat.mod_lt _ (Nat.two_pow_pos n)

theorem pow_int (m : Nat) : ((2 : Int) ^ m) = ((2 ^ m : Nat) : Int) := by simp

/-- One byte more, above the others. -/
theorem word_or (y k : Nat) (x : Int) (hy : y < 256 ^ k) (hk : k ≤ 4) (x0 : 0 ≤ x) (x1 : x ≤ 255) : bits .or .u64 (y : Int) (IntKind.u64.wrap (x * 2 ^ (8 * k))) = ((y + x.toNat * 256 ^ k : Nat) : Int) := by
  obtain ⟨X, rfl⟩ := Int.eq_ofNat_of_zero_le x0
  rw [Int.toNat_natCast, two56] at *
  have hp : (2 : Nat) ^ (8 * k) ≤ 2 ^ 32 := Nat.pow_le_pow_right (by decide) (by omega)
  have hX : X * 2 ^ (8 * k) ≤ 255 * 2 ^ 32 := Nat.mul_le_mul (by omega) hp
  have e : (X : Int) * 2 ^ (8 * k) = ((X * 2 ^ (8 * k) : Nat) : Int) := by rw [pow_int]; simp
  rw [e]
  have hor : y ||| X * 2 ^ (8 * k) = y + X * 2 ^ (8 * k) := by
    have := Nat.two_pow_add_eq_or_of_lt (i := 8 * k) (b := y) hy X
    rw [Nat.mul_comm, Nat.or_comm, ← this, Nat.add_comm]
  generalize X * 2 ^ (8 * k) = Z at *
  have hw : IntKind.u64.wrap (Z : Int) = (Z : Int) := by rw [IntKind.wrap_u64]; omega
  rw [hw, u64_or_nat y Z (by omega) (by omega), hor]

/-- The lowest n bits behind s. -/
theorem word_and (Y s n : Nat) (hY : Y < 18446744073709551616) (hn : n ≤ 32) : bits .and .u64 ((Y : Int) / 2 ^ s) (IntKind.u64.wrap (IntKind.u64.wrap (2 ^ n) - 1)) = ((field Y s n : Nat) : Int) := by
  have e : (Y : Int) / 2 ^ s = ((Y / 2 ^ s : Nat) : Int) := by rw [pow_int]; simp
  have hp : (2 : Nat) ^ n ≤ 2 ^ 32 := Nat.pow_le_pow_right (by decide) hn
  have hp0 : 0 < (2 : Nat) ^ n := Nat.two_pow_pos n
  have hd : Y / 2 ^ s ≤ Y := Nat.div_le_self _ _
  unfold field
  rw [e, pow_int n, ← Nat.and_two_pow_sub_one_eq_mod]
  generalize (2 : Nat) ^ n = Q at *
  have hw : IntKind.u64.wrap (IntKind.u64.wrap (Q : Int) - 1) = ((Q - 1 : Nat) : Int) := by rw [IntKind.wrap_u64, IntKind.wrap_u64]; omega
  rw [hw, u64_and_nat _ _ (by omega) (by omega)]

end Go.Proofs.Ytmfacacpoajpgab
