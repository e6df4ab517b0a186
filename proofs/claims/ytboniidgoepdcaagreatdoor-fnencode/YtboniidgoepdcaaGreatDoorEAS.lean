import Derived.Laws.BitsAllLaws
import Derived.Lib.MinMax
import Derived.Test.YtboniidgoepdcaaGreatDoorEAA
import Derived.Test.YtboniidgoepdcaaGreatDoorEAL
/-
  THE NUMBER OF A LIST OF BYTES, the first the lowest; its bits. No program.
-/
namespace Go.Proofs.YtboniidgoepdcaaGreatDoor
open Go.RowKit

def bnum : List Int → Nat
  | [] => 0
  | z :: r => z.toNat + 256 * bnum r

theorem bnum_lt (zs : List Int) (h : Octets zs) : bnum zs < 256 ^ zs.length := by
  induction zs with
  | nil => decide
  | cons z r ih =>
    have h1 := h z (List.mem_cons_self)
    have h2 := ih (fun x hx => h x (List.mem_cons_of_mem _ hx))
    simp only [bnum, List.length_cons, Nat.pow_succ]
    omega

theorem bnum_append (xs ys : List Int) : bnum (xs ++ ys) = bnum xs + 256 ^ xs.length * bnum ys := by
  induction xs with
  | nil => simp [bnum]
  | cons z r ih =>
    simp only [List.cons_append, bnum, ih, List.length_cons, Nat.pow_succ]
    rw [Nat.mul_add, ← Nat.mul_assoc, Nat.mul_comm 256 (256 ^ r.length), Nat.add_assoc]

theorem Octets.take {zs : List Int} (h : Octets zs) (k : Nat) : Octets (zs.take k) := fun x hx => h x (List.mem_of_mem_take hx)
theorem Octets.drop {zs : List Int} (h : Octets zs) (k : Nat) : Octets (zs.drop k) := fun x hx => h x (List.mem_of_mem_drop hx)

theorem bnum_take_succ (zs : List Int) (k : Nat) (h : k < zs.length) : bnum (zs.take (k + 1)) = bnum (zs.take k) + (zs.getD k 0).toNat * 256 ^ k := by
  have e : zs.take (k + 1) = zs.take k ++ [zs.getD k 0] := by
    rw [List.take_succ_eq_append_getElem h]
    simp [List.getD, h]
  rw [e, bnum_append]
  simp [bnum, Nat.min_eq_left (Nat.le_of_lt h), Nat.mul_comm]

theorem two56 (k : Nat) : (256 : Nat) ^ k = 2 ^ (8 * k) := by
  rw [Nat.pow_mul]

/-- What lies below the first k bytes is told by them alone. -/
theorem bnum_low (zs : List Int) (k s n : Nat) (h : s + n ≤ 8 * k) : bnum (zs.take k) / 2 ^ s % 2 ^ n = bnum zs / 2 ^ s % 2 ^ n := by
  have e : bnum zs = bnum (zs.take k) + 256 ^ (zs.take k).length * bnum (zs.drop k) := by
    conv => lhs; rw [← List.take_append_drop k zs]
    exact bnum_append _ _
  by_cases hk : k ≤ zs.length
  · have hl : (zs.take k).length = k := by rw [List.length_take]; omega
    rw [e, hl, two56, show 8 * k = s + (8 * k - s) by omega, Nat.pow_add, Nat.mul_assoc, Nat.add_mul_div_left _ _ (Nat.two_pow_pos s),
      show 8 * k - s = n + (8 * k - s - n) by omega, Nat.pow_add, Nat.mul_assoc, Nat.add_mul_mod_self_left]
  · rw [List.take_of_length_le (by omega)]

/-- Bit j of a list of bytes. -/
theorem bnum_bit (zs : List Int) (hz : Octets zs) (j : Nat) : (zs.getD (j / 8) 0).toNat / 2 ^ (j % 8) % 2 = bnum zs / 2 ^ j % 2 := by
  induction zs generalizing j with
  | nil => simp [bnum]
  | cons z r ih =>
    have h1 := hz z (List.mem_cons_self)
    have h2 : Octets r := fun x hx => hz x (List.mem_cons_of_mem _ hx)
    by_cases hj : j < 8
    · have e0 : j / 8 = 0 := by omega
      have e1 : j % 8 = j := by omega
      rw [e0, e1]
      have := bnum_low (z :: r) 1 j 1 (by omega)
      simp only [List.take_succ_cons, List.take_zero, bnum, Nat.mul_zero, Nat.add_zero, Nat.pow_one] at this
      simpa [bnum] using this
    · obtain ⟨i, rfl⟩ : ∃ i, j = i + 8 := ⟨j - 8, by omega⟩
      have e0 : (i + 8) / 8 = i / 8 + 1 := by omega
      have e1 : (i + 8) % 8 = i % 8 := by omega
      rw [e0, e1]
      have hz0 : z.toNat < 256 := by omega
      have e2 : (z.toNat + 256 * bnum r) / 2 ^ (i + 8) = bnum r / 2 ^ i := by
        rw [Nat.pow_add, Nat.mul_comm (2 ^ i), ← Nat.div_div_eq_div_mul]
        congr 1
        show (z.toNat + 256 * bnum r) / 256 = bnum r
        omega
      simp only [bnum]
      rw [e2, ← ih h2 i]
      simp [List.getD]

/-- One bit more at the lowest place. -/
theorem mod_succ (M m : Nat) : M % 2 ^ (m + 1) = 2 * (M / 2 % 2 ^ m) + M % 2 := by
  rw [Nat.pow_succ, Nat.mul_comm (2 ^ m) 2, Nat.mod_mul]
  omega

/-- The number of n bits from bit s on. -/
def field (N s n : Nat) : Nat := N / 2 ^ s % 2 ^ n
theorem field_succ (N s m : Nat) : field N s (m + 1) = 2 * field N (s + 1) m + N / 2 ^ s % 2 := by
  unfold field
  rw [mod_succ, Nat.div_div_eq_div_mul, ← Nat.pow_succ]
theorem field_zero (N s : Nat) : field N s 0 = 0 := by unfold field; rw [Nat.pow_zero, Nat.mod_one]
theorem field_lt (N s n : Nat) : field N s n < 2 ^ n := Nat.mod_lt _ (Nat.two_pow_pos n)

theorem pow_int (m : Nat) : ((2 : Int) ^ m) = ((2 ^ m : Nat) : Int) := by simp

/-- One byte more, above the others. -/
theorem word_or (y k : Nat) (x : Int) (hy : y < 256 ^ k) (hk : k ≤ 4) (x0 : 0 ≤ x) (x1 : x ≤ 255) : bits .or .u64 (y : Int) (IntKind.u64.wrap (x * 2 ^ (8 * k))) = ((y + x.toNat * 256 ^ k : Nat) : Int) := by
  obtain ⟨X, rfl⟩ := Int.eq_ofNat_of_zero_le x0
  rw [Int.toNat_natCast, two56] at *
  have hp : (2 : Nat) ^ (8 * k) ≤ 2 ^ 32 := Nat.pow_le_pow_right (by decide) (by omega)
  have hX : X * 2 ^ (8 * k) ≤ 255 * 2 ^ 32 := Nat.mul_le_mul (by omega) hp
  have e : (X : Int) * 2 ^ (8 * k) = ((X * 2 ^ (8 * k) : Nat) : Int) := by rw [pow_int]; simp
  rw [e]
  have hor : y ||| X * 2 ^ (8 * k) = y + X * 2 ^ (8 * k) := by
    have := Nat.two_pow_add_eq_or_of_lt (i := 8 * k) (b := y) hy X
    rw [Nat.mul_comm, Nat.or_comm, ← this, Nat.add_comm]
  generalize X * 2 ^ (8 * k) = Z at *
  have hw : IntKind.u64.wrap (Z : Int) = (Z : Int) := by rw [IntKind.wrap_u64]; omega
  rw [hw, u64_or_nat y Z (by omega) (by omega), hor]

/-- The lowest n bits behind s. -/
theorem word_and (Y s n : Nat) (hY : Y < 18446744073709551616) (hn : n ≤ 32) : bits .and .u64 ((Y : Int) / 2 ^ s) (IntKind.u64.wrap (IntKind.u64.wrap (2 ^ n) - 1)) = ((field Y s n : Nat) : Int) := by
  have e : (Y : Int) / 2 ^ s = ((Y / 2 ^ s : Nat) : Int) := by rw [pow_int]; simp
  have hp : (2 : Nat) ^ n ≤ 2 ^ 32 := Nat.pow_le_pow_right (by decide) hn
  have hp0 : 0 < (2 : Nat) ^ n := Nat.two_pow_pos n
  have hd : Y / 2 ^ s ≤ Y := Nat.div_le_self _ _
  unfold field
  rw [e, pow_int n, ← Nat.and_two_pow_sub_one_eq_mod]
  generalize (2 : Nat) ^ n = Q at *
  have hw : IntKind.u64.wrap (IntKind.u64.wrap (Q : Int) - 1) = ((Q - 1 : Nat) : Int) := by rw [IntKind.wrap_u64, IntKind.wrap_u64]; omega
  rw [hw, u64_and_nat _ _ (by omega) (by omega)]

end Go.Proofs.YtboniidgoepdcaaGreatDoor
namespace Go.Proofs.YtboniidgoepdcaaGreatDoor
open Go.RowKit
attribute [local go_sem ↓] Go.wp_at_zero Go.wp_at_succ

theorem ret_i {k : IntKind} {a b : Int} (h : a = b) : Ending.returned (.int k a) = .returned (.int k b) := by rw [h]

set_option maxRecDepth 100000 in
set_option maxHeartbeats 3200000 in
/-- (bitReader).peek. -/
theorem peek_any (p : Nat) (ao : Option Addr) (cap : Nat) (zs : List Int) (a u : Int) (n : Nat) (w : World) (hs : Src w p (.slice ao zs.length cap) a u) (hr : Row w ao zs) (hz : Octets zs) (hfit : zs.length ≤ cap) (hl : zs.length ≤ 1000000) (a0 : 0 ≤ a) (a7 : a ≤ 7) (n1 : n ≤ 32) (hn : a + n ≤ 8 * (zs.length : Int)) :
    Calls Tryz.prog 78 #[.agg #[.pointer (some ⟨p, 0, none⟩)], .int .i64 n] w fun e w' => e = .returned (.int .u64 (field (bnum zs) a.toNat n : Nat)) ∧ Below w.heap.size w w' := by
  have hp : p < w.heap.size := World.block_lt_of_cell? w _ hs.1
  have hne : w.heap.size ≠ p := by omega
  obtain ⟨c0, c1, c2, f0, f1, f2⟩ := hs
  obtain ⟨m, hm⟩ : ∃ m : Nat, m = min zs.length 5 := ⟨_, rfl⟩
  have hmin : min (zs.length : Int) 5 = (m : Int) := by omega
  have hmax : max (m : Int) 0 = (m : Int) := by omega
  have hm5 : m ≤ 5 := by omega
  have hml : m ≤ zs.length := by omega
  have HM : Hid (m = min zs.length 5) := hm
  clear hm
  go_enter Tryz.func78, Tryz.ntmps78
  go_wp2
  go_quiet (fail)
  go_wp2_with fail
  go_loop [5, 22] (fun x i => ∃ k : Nat, k ≤ m ∧ i = .int .i64 k ∧ x = .int .u64 (bnum (zs.take k) : Nat)) (fun _ i => m - (intOf i).toNat)
  case atStart => exact ⟨0, Nat.zero_le _, rfl, rfl⟩
  case round =>
    obtain ⟨k, hk, rfl, rfl⟩ := hrel
    by_cases hlt : k < m
    · obtain ⟨b, off, rfl, hc⟩ := hr.at (k := k) (by omega)
      have hck := hc k (by omega)
      have hbw : b < w.heap.size := World.block_lt_of_cell? w _ hck
      have hzk := hz.getD k
      have hNs := bnum_take_succ zs k (by omega)
      have HNs : Hid (bnum (zs.take (k + 1)) = bnum (zs.take k) + (zs.getD k 0).toNat * 256 ^ k) := hNs
      clear hNs hc hr
      have hy : bnum (zs.take k) < 256 ^ k := by
        have := bnum_lt (zs.take k) (hz.take k)
        rw [List.length_take, Nat.min_eq_left (by omega)] at this
        exact this
      generalize zs.getD k 0 = x at *
      generalize bnum (zs.take k) = y at *
      go_wp2_with fail
      go_round
      case rel => exact ⟨k + 1, by omega, by go_num, by rw [HNs.out, word_or y k x hy (by omega) hzk.1 hzk.2]⟩
      case measure => simp [intOf]; omega
    · have e : k = m := by omega
      subst e
      have hy : bnum (zs.take k) < 18446744073709551616 := by
        have h1 := bnum_lt (zs.take k) (hz.take k)
        have h2 : (256 : Nat) ^ (zs.take k).length ≤ 256 ^ 5 := Nat.pow_le_pow_right (by decide) (by rw [List.length_take]; omega)
        omega
      have HF : Hid (field (bnum (zs.take k)) a.toNat n = field (bnum zs) a.toNat n) := bnum_low zs k a.toNat n (by have := HM.out; omega)
      clear hr
      go_wp2_with fail
      go_quiet (fail)
      go_wp2_with fail
      go_ret
      exact ⟨by rw [← HF.out]; exact ret_i (word_and _ _ n hy n1), ((((Below.refl _ _).alloc (Nat.le_refl _) _).trans (below_drewN' _ _ _)).trans (below_drewN' _ _ _))⟩

set_option maxHeartbeats 3200000 in
/-- (bitReader).take, where it is not Ok. -/
theorem take_no (p : Nat) (ao : Option Addr) (len cap : Nat) (a u n : Int) (w : World) (hs : Src w p (.slice ao len cap) a u) (hv : vld len a u = true) (hno : n < 0 ∨ 32 < n ∨ (0 ≤ n ∧ n ≤ 32 ∧ hasB len a u n = false)) :
    Calls Tryz.prog 59 #[.agg #[.pointer (some ⟨p, 0, none⟩)], .int .i64 n] w fun e w' => e = .returned (.tuple #[.int .u64 0, .bool false]) ∧ Below w.heap.size w w' := by
  obtain ⟨a0, a7, al, hl, u0, u1, um⟩ := vld_out hv
  clear al um hv
  rcases hno with h | h | ⟨h0, h1, h2⟩
  · clear hs
    go_enter Tryz.func59, Tryz.ntmps59
    go_wp2_with fail
    go_ret2
    exact ⟨rfl, (Below.refl _ _).alloc (Nat.le_refl _) _⟩
  · have h' : ¬ n < 0 := by omega
    clear hs
    go_enter Tryz.func59, Tryz.ntmps59
    go_wp2_with fail
    go_ret2
    exact ⟨rfl, (Below.refl _ _).alloc (Nat.le_refl _) _⟩
  · have HB : Hid (hasB len a u n = false) := h2
    clear h2
    have hs2 := hs.grown (World.grownBy_alloc w (Obj.cells #[Value.pointer (some ⟨p, 0, none⟩)] 52) none) (by simp)
    go_enter Tryz.func59, Tryz.ntmps59
    go_wp2_with fail
    refine (has_any p ao len cap a u n _ hs2 hl a0 a7 u0 u1 h0 (by omega)).mono ?_
    rintro e w' ⟨rfl, q, rfl⟩
    rw [HB.out]
    go_wp2_with fail
    go_ret2
    exact ⟨rfl, ((Below.refl _ _).alloc (Nat.le_refl _) _).trans (below_drewN' _ _ _)⟩

set_option maxHeartbeats 3200000 in
/-- (bitReader).take, Ok. -/
theorem take_yes (p : Nat) (ao : Option Addr) (cap : Nat) (zs : List Int) (a u : Int) (n : Nat) (w : World) (hs : Src w p (.slice ao zs.length cap) a u) (hr : Row w ao zs) (hz : Octets zs) (hfit : zs.length ≤ cap) (hv : vld zs.length a u = true) (n1 : n ≤ 32) (hh : hasB zs.length a u n = true) :
    Calls Tryz.prog 59 #[.agg #[.pointer (some ⟨p, 0, none⟩)], .int .i64 n] w fun e w' => e = .returned (.tuple #[.int .u64 (field (bnum zs) a.toNat n : Nat), .bool true]) ∧
      Src w' p (.slice (cutAt ao cap ((a + n) / 8).toNat) (zs.length - ((a + n) / 8).toNat) (cap - ((a + n) / 8).toNat)) ((a + n) % 8) (u + n) ∧ w.grownBy w' (some p) := by
  obtain ⟨a0, a7, al, hl, u0, u1, um⟩ := vld_out hv
  have hbits := of_decide_eq_true hh
  have HB : Hid (hasB zs.length a u n = true) := hh
  clear al um hv hh
  have hp : p < w.heap.size := World.block_lt_of_cell? w _ hs.1
  have hal := World.grownBy_alloc w (Obj.cells #[Value.pointer (some ⟨p, 0, none⟩)] 52) none
  have hs2 := hs.grown hal (by simp)
  have hr2 := hr.grown hal (by simp)
  have hrd : (w.alloc (.cells #[.pointer (some ⟨p, 0, none⟩)] 52)).cell? ⟨w.heap.size, 0, none⟩ = some (.pointer (some ⟨p, 0, none⟩)) := by simp [go_sem]
  go_enter Tryz.func59, Tryz.ntmps59
  go_wp2_with fail
  refine (has_any p ao zs.length cap a u n _ hs2 hl a0 a7 u0 u1 (by omega) (by omega)).mono ?_
  rintro e w' ⟨rfl, q, rfl⟩
  rw [HB.out]
  go_wp2_with fail
  refine (peek_any p ao cap zs a u n _ (hs2.drewN q) (hr2.drewN q) hz hfit hl a0 a7 n1 (by omega)).mono ?_
  rintro e w3 ⟨rfl, hb3⟩
  have hs3 := (hs2.drewN q).grown (grownBy_of_below hb3 none) (by simp)
  have hrd3 : w3.cell? ⟨w.heap.size, 0, none⟩ = some (.pointer (some ⟨p, 0, none⟩)) := (grownBy_of_below hb3 none).cell (by exact hrd) (by simp)
  have hg3 : w.grownBy w3 (some p) := grownBy_trans (grownBy_trans (World.grownBy_alloc w _ _) (grownBy_of_below (below_drewN' _ _ _) _)) (grownBy_of_below hb3 _)
  clear hr2 hs2 hrd hb3 hr hal
  go_wp2_with fail
  refine (pass_any p ao zs.length cap a u n _ hs3 hl a0 a7 u0 u1 (by omega) (by omega)).mono ?_
  rintro e w4 ⟨rfl, h1, h2, h3⟩
  go_wp2_with fail
  go_ret2
  exact ⟨rfl, h1, grownBy_trans hg3 h2⟩
end Go.Proofs.YtboniidgoepdcaaGreatDoor
