import Derived.Test.YtbddkkfakkedaaaGreatDoorProg
import Derived.WalkKit
import Derived.WalkSpells
import Derived.WalkLawsBesides
import Derived.BigQuiet
import Derived.Laws.BitsAllLaws
import Derived.Test.YtbddkkfakkedaaaGreatDoorMAA
import Derived.Test.YtbddkkfakkedaaaGreatDoorMAB
import Derived.Test.YtbddkkfakkedaaaGreatDoorMAC
import Derived.Test.YtbddkkfakkedaaaGreatDoorMAD
import Derived.Test.YtbddkkfakkedaaaGreatDoorMAH
namespace Go.Proofs.YtbddkkfakkedaaaGreatDoor.Adl
/-- The joined sum: both halves. -/
def lo (a1 b1 : Int) : Int := (a1 + b1 - 1) % 65521
def hi (a1 a2 b2 n : Int) : Int := (a2 + b2 + n * (a1 - 1)) % 65521

theorem lo_spec (a1 b1 : Int) : (a1 + b1 + 65521 - 1) % 65521 = lo a1 b1 := by unfold lo; omega
theorem hi_spec (a1 a2 b2 n : Int) : (a2 + b2 + n % 65521 * ((a1 + 65521 - 1) % 65521)) % 65521 = hi a1 a2 b2 n := by
  unfold hi
  rw [Int.add_emod, ← Int.mul_emod, Int.add_emod (a2 + b2) (n * (a1 - 1))]
  congr 2
  rw [Int.mul_emod n (a1 - 1), Int.mul_emod n (a1 + 65521 - 1)]
  congr 2
  omega
theorem lo_bd (a1 b1 : Int) : 0 ≤ lo a1 b1 ∧ lo a1 b1 ≤ 65520 := by unfold lo; omega
theorem hi_bd (a1 a2 b2 n : Int) : 0 ≤ hi a1 a2 b2 n ∧ hi a1 a2 b2 n ≤ 65520 := by unfold hi; omega
theorem mul_bd (n x : Int) (h0 : 0 ≤ n) (h1 : n ≤ 1000000) (h2 : -1 ≤ x) (h3 : x ≤ 65520) : -1000000 ≤ n * x ∧ n * x ≤ 65520000000 := by
  constructor
  · have : n * (-1) ≤ n * x := Int.mul_le_mul_of_nonneg_left h2 h0
    omega
  · have : n * x ≤ n * 65520 := Int.mul_le_mul_of_nonneg_left h3 h0
    omega
theorem into (x : Int) : (x.tmod 65521 + 65521) % 65521 = x % 65521 := by
  have := Int.tmod_eq_emod (a := x) (b := 65521)
  rw [this]; split <;> simp <;> omega
end Go.Proofs.YtbddkkfakkedaaaGreatDoor.Adl
/-
  PLAIN MATHEMATICS of the two sums over lists of bytes: the remainder after every byte or after a run; a text in two parts; the joined sum.
-/
namespace Go.Proofs.YtbddkkfakkedaaaGreatDoor.Adl

/-- The plain sum: remainders after every byte. -/
def up : Int → Int → List Int → Int × Int
  | s, t, [] => (s, t)
  | s, t, x :: xs => up ((s + x) % 65521) ((t + (s + x) % 65521) % 65521) xs

/-- The same without remainders. -/
def raw : Int → Int → List Int → Int × Int
  | s, t, [] => (s, t)
  | s, t, x :: xs => raw (s + x) (t + (s + x)) xs

/-- What a list adds by itself. -/
def sum : List Int → Int
  | [] => 0
  | x :: xs => x + sum xs
def wsum : List Int → Int
  | [] => 0
  | x :: xs => (xs.length + 1) * x + wsum xs

theorem raw_eq (s t : Int) (xs : List Int) : raw s t xs = (s + sum xs, t + xs.length * s + wsum xs) := by
  induction xs generalizing s t with
  | nil => simp [raw, sum, wsum]
  | cons x xs ih =>
    rw [raw, ih, sum, wsum]
    simp only [List.length_cons, Int.natCast_add, Int.natCast_one]
    rw [Int.add_mul, Int.mul_add, Int.add_mul]
    refine Prod.ext (by simp only; omega) (by simp only; omega)

theorem up_raw (s t : Int) (xs : List Int) (s' t' : Int) (hs : s % 65521 = s' % 65521) (ht : t % 65521 = t' % 65521) (b : 0 ≤ s ∧ s < 65521 ∧ 0 ≤ t ∧ t < 65521) :
    up s t xs = ((raw s' t' xs).1 % 65521, (raw s' t' xs).2 % 65521) := by
  induction xs generalizing s t s' t' with
  | nil => simp only [up, raw]; refine Prod.ext (by simp only; omega) (by simp only; omega)
  | cons x xs ih =>
    rw [up, raw]
    exact ih _ _ _ _ (by omega) (by omega) (by omega)

theorem up_append (s t : Int) (xs ys : List Int) : up s t (xs ++ ys) = up (up s t xs).1 (up s t xs).2 ys := by
  induction xs generalizing s t with
  | nil => rfl
  | cons x xs ih => rw [List.cons_append, up, ih]; rfl

theorem up_bd (s t : Int) (xs : List Int) (b : 0 ≤ s ∧ s < 65521 ∧ 0 ≤ t ∧ t < 65521) : 0 ≤ (up s t xs).1 ∧ (up s t xs).1 < 65521 ∧ 0 ≤ (up s t xs).2 ∧ (up s t xs).2 < 65521 := by
  induction xs generalizing s t with
  | nil => exact b
  | cons x xs ih => exact ih _ _ (by omega)

theorem raw_append (s t : Int) (xs ys : List Int) : raw s t (xs ++ ys) = raw (raw s t xs).1 (raw s t xs).2 ys := by
  induction xs generalizing s t with
  | nil => rfl
  | cons x xs ih => rw [List.cons_append, raw, ih]; rfl

/-- A run of at most 5552 bytes stays within 32 bits. -/
def tri : Nat → Nat
  | 0 => 0
  | n + 1 => tri n + (n + 1)
theorem tri_eq (n : Nat) : 2 * tri n = n * (n + 1) := by
  induction n with
  | zero => rfl
  | succ n ih => rw [tri, Nat.mul_add, ih, ← Nat.add_mul, Nat.mul_comm]
theorem tri_le (n : Nat) (h : n ≤ 5552) : tri n ≤ 15415128 := by
  have h1 := tri_eq n
  have h2 : n * (n + 1) ≤ 5552 * 5553 := Nat.mul_le_mul h (by omega)
  omega

theorem raw_snoc (s t : Int) (xs : List Int) (x : Int) : raw s t (xs ++ [x]) = ((raw s t xs).1 + x, (raw s t xs).2 + ((raw s t xs).1 + x)) := by
  rw [raw_append]; rfl

theorem snoc_induction {P : List Int → Prop} (h0 : P []) (h1 : ∀ xs x, P xs → P (xs ++ [x])) (xs : List Int) : P xs := by
  rw [← List.reverse_reverse xs]
  induction xs.reverse with
  | nil => exact h0
  | cons x ys ih => rw [List.reverse_cons]; exact h1 _ _ ih

theorem raw_bd (s t : Int) (b : 0 ≤ s ∧ s < 65521 ∧ 0 ≤ t ∧ t < 65521) (xs : List Int) (h : ∀ x ∈ xs, 0 ≤ x ∧ x ≤ 255) :
    0 ≤ (raw s t xs).1 ∧ (raw s t xs).1 ≤ 65520 + 255 * xs.length ∧ 0 ≤ (raw s t xs).2 ∧ (raw s t xs).2 ≤ 65520 * (xs.length + 1) + 255 * (tri xs.length : Nat) := by
  revert h
  refine snoc_induction (P := fun xs => (∀ x ∈ xs, 0 ≤ x ∧ x ≤ 255) → 0 ≤ (raw s t xs).1 ∧ (raw s t xs).1 ≤ 65520 + 255 * xs.length ∧ 0 ≤ (raw s t xs).2 ∧ (raw s t xs).2 ≤ 65520 * (xs.length + 1) + 255 * (tri xs.length : Nat)) ?_ ?_ xs
  · intro _; simp [raw, tri]; omega
  · intro ys x ih h
    have ih := ih (fun z hz => h z (by simp [hz]))
    have hx := h x (by simp)
    rw [raw_snoc]
    simp only [List.length_append, List.length_cons, List.length_nil, Nat.zero_add, tri, Int.natCast_add, Int.natCast_one]
    omega

theorem raw_lt (s t : Int) (b : 0 ≤ s ∧ s < 65521 ∧ 0 ≤ t ∧ t < 65521) (xs : List Int) (h : ∀ x ∈ xs, 0 ≤ x ∧ x ≤ 255) (hl : xs.length ≤ 5552) :
    0 ≤ (raw s t xs).1 ∧ (raw s t xs).1 < 4294967296 ∧ 0 ≤ (raw s t xs).2 ∧ (raw s t xs).2 < 4294967296 := by
  have h1 := raw_bd s t b xs h
  have h2 := tri_le xs.length hl
  omega

/-- The whole number. -/
def whole (p : Int × Int) : Int := p.2 * 65536 + p.1
theorem whole_lo (p : Int × Int) (h : 0 ≤ p.1 ∧ p.1 < 65521 ∧ 0 ≤ p.2 ∧ p.2 < 65521) : whole p % 65536 % 65521 = p.1 ∧ whole p / 65536 % 65521 = p.2 ∧ 0 ≤ whole p ∧ whole p < 4294967296 := by
  unfold whole; omega

/-- The joined sum is the whole text's. -/
theorem join_eq (xs ys : List Int) :
    hi (up 1 0 xs).1 (up 1 0 xs).2 (up 1 0 ys).2 ys.length * 65536 + lo (up 1 0 xs).1 (up 1 0 ys).1 = whole (up 1 0 (xs ++ ys)) := by
  have ha := up_bd 1 0 xs (by omega)
  rw [up_append]
  generalize up 1 0 xs = a at *
  obtain ⟨a1, a2⟩ := a
  simp only at ha ⊢
  rw [up_raw a1 a2 ys a1 a2 rfl rfl ha, up_raw 1 0 ys 1 0 rfl rfl (by omega), raw_eq, raw_eq]
  unfold whole hi lo
  simp only [Int.mul_one]
  have hm := Int.mul_sub (ys.length : Int) a1 1
  rw [hm]
  generalize (ys.length : Int) * a1 = q
  generalize sum ys = u
  generalize wsum ys = v
  omega
end Go.Proofs.YtbddkkfakkedaaaGreatDoor.Adl

namespace Go.Proofs.YtbddkkfakkedaaaGreatDoor.Crc
/-- The number through a list of bytes. -/
def one (c : Nat) (x : Int) : Nat := halves 8 (c ^^^ x.toNat)
def cr (c : Nat) (xs : List Int) : Nat := xs.foldl one c
theorem cr_nil (c : Nat) : cr c [] = c := List.foldl_nil
theorem cr_cons (c : Nat) (x : Int) (xs : List Int) : cr c (x :: xs) = cr (one c x) xs := List.foldl_cons ..

theorem cr_append (c : Nat) (xs ys : List Int) : cr c (xs ++ ys) = cr (cr c xs) ys := List.foldl_append ..

theorem cr_snoc (c : Nat) (xs : List Int) (x : Int) : cr c (xs ++ [x]) = one (cr c xs) x := by
  rw [cr_append, cr_cons, cr_nil]

theorem one_xor (c d : Nat) (x : Int) : one (c ^^^ d) x = one c x ^^^ halves 8 d := by
  unfold one
  rw [Nat.xor_assoc, Nat.xor_comm d, ← Nat.xor_assoc, halves_xor]

theorem cr_xor (c d : Nat) (xs : List Int) : cr (c ^^^ d) xs = cr c xs ^^^ halves (8 * xs.length) d := by
  induction xs generalizing c d with
  | nil => rw [cr_nil, cr_nil]; rfl
  | cons x xs ih =>
    rw [cr_cons, cr_cons, one_xor, ih, ← halves_add, List.length_cons, Nat.mul_add]

theorem one_lt (c : Nat) (x : Int) (hc : c < 4294967296) (h : 0 ≤ x ∧ x ≤ 255) : one c x < 4294967296 := by
  unfold one
  refine halves_lt _ _ (Nat.xor_lt_two_pow (n := 32) hc ?_)
  omega

theorem cr_lt (c : Nat) (xs : List Int) (hc : c < 4294967296) (h : ∀ x ∈ xs, 0 ≤ x ∧ x ≤ 255) : cr c xs < 4294967296 := by
  induction xs generalizing c with
  | nil => rw [cr_nil]; exact hc
  | cons x xs ih =>
    rw [cr_cons]
    exact ih _ (one_lt c x hc (h x (by simp))) (fun z hz => h z (by simp [hz]))

/-- A text's sum. -/
def crc (xs : List Int) : Nat := cr 4294967295 xs ^^^ 4294967295

theorem xor_xor (a b : Nat) : a ^^^ b ^^^ b = a := by rw [Nat.xor_assoc, Nat.xor_self, Nat.xor_zero]

theorem join_eq (xs ys : List Int) : halves (8 * ys.length) (crc xs) ^^^ crc ys = crc (xs ++ ys) := by
  unfold crc
  rw [cr_append]
  have h := cr_xor 4294967295 (4294967295 ^^^ cr 4294967295 xs) ys
  rw [← Nat.xor_assoc, Nat.xor_self, Nat.zero_xor] at h
  rw [h, Nat.xor_comm (cr 4294967295 xs), ← Nat.xor_assoc, Nat.xor_comm (halves _ _)]

theorem compl (c : Nat) (h : c < 4294967296) : c ^^^ 4294967295 = 4294967295 - c := by
  apply Nat.eq_of_testBit_eq
  intro i
  have h1 := Nat.testBit_two_pow_sub_succ (n := 32) (x := c) (by simpa using h) i
  have h2 := Nat.testBit_two_pow_sub_one 32 i
  rw [show (2 : Nat) ^ 32 - (c + 1) = 4294967295 - c from by omega] at h1
  rw [show (2 : Nat) ^ 32 - 1 = 4294967295 from rfl] at h2
  rw [Nat.testBit_xor, h1, h2]
  by_cases hi : i < 32
  · simp [hi]
  · have h3 : c.testBit i = false := Nat.testBit_lt_two_pow (Nat.lt_of_lt_of_le h (by
      have : 2 ^ 32 ≤ 2 ^ i := Nat.pow_le_pow_right (by omega) (by omega)
      simpa using this))
    simp [hi, h3]
end Go.Proofs.YtbddkkfakkedaaaGreatDoor.Crc
namespace Go.Proofs.YtbddkkfakkedaaaGreatDoor
open Go.RowKit

theorem ret_int {k : IntKind} {a b : Int} (h : a = b) : Ending.returned (.int k a) = .returned (.int k b) := by rw [h]

theorem halves_any (a : Int) (h0 : 0 ≤ a) (h1 : a < 4294967296) (w : World) :
    Calls Tryz.prog 70 #[.int .u32 a] w fun e w' => e = .returned (.tuple #[.int .u32 (a % 65536 % 65521), .int .u32 (a / 65536 % 65521)]) ∧ w' = w := by
  go_enter Tryz.func70, Tryz.ntmps70
  go_wp2
  go_ret2
  exact ⟨rfl, rfl⟩

theorem into_eq (x : Int) : (wrap64 (x.tmod 65521 + 65521)).tmod 65521 % 4294967296 = x % 65521 := by
  have h := Adl.into x
  have h2 := Int.tmod_lt_of_pos x (b := 65521) (by decide)
  have h3 := Int.lt_tmod_of_pos x (b := 65521) (by decide)
  have e : wrap64 (x.tmod 65521 + 65521) = x.tmod 65521 + 65521 := by unfold wrap64; omega
  rw [e, Int.tmod_eq_emod_of_nonneg (by omega)]
  omega

theorem into_any (x : Int) (_h0 : -100000000000 ≤ x) (_h1 : x ≤ 100000000000) (w : World) :
    Calls Tryz.prog 75 #[.int .i64 x] w fun e w' => e = .returned (.int .u32 (x % 65521)) ∧ w' = w := by
  go_enter Tryz.func75, Tryz.ntmps75
  go_wp2
  go_ret
  exact ⟨ret_int (into_eq x), rfl⟩

/-- The two halves put together. -/
theorem halves_or (h l : Int) (h0 : 0 ≤ h) (h1 : h < 65536) (l0 : 0 ≤ l) (l1 : l < 65536) : bits .or .u32 (h * 65536) l = h * 65536 + l := by
  obtain ⟨H, rfl⟩ := Int.eq_ofNat_of_zero_le h0
  obtain ⟨L, rfl⟩ := Int.eq_ofNat_of_zero_le l0
  have e : ((H : Int) * 65536) = ((H * 65536 : Nat) : Int) := by omega
  rw [e, u32_or_nat _ _ (by omega) (by omega)]
  have e2 : H * 65536 ||| L = H * 65536 + L := by
    have := Nat.two_pow_add_eq_or_of_lt (i := 16) (b := L) (by omega) H
    rw [Nat.mul_comm, show (2 : Nat) ^ 16 = 65536 from rfl] at this
    exact this.symm
  omega

/-- impl.AdlerJoin, in range. -/
theorem join_in (a b n : Int) (a0 : 0 ≤ a) (a1 : a < 4294967296) (b0 : 0 ≤ b) (b1 : b < 4294967296) (n0 : 0 ≤ n) (n1 : n ≤ 1000000) (w : World) :
    Calls Tryz.prog 46 #[.int .u32 a, .int .u32 b, .int .i64 n] w fun e w' => e = .returned (.int .u32 (Adl.hi (a % 65536 % 65521) (a / 65536 % 65521) (b / 65536 % 65521) n * 65536 + Adl.lo (a % 65536 % 65521) (b % 65536 % 65521))) ∧ w' = w := by
  have hm := Adl.mul_bd n (a % 65536 % 65521 - 1) n0 n1 (by omega) (by omega)
  go_enter Tryz.func46, Tryz.ntmps46
  go_wp2_with (first
    | (go_at_call 70; refine (halves_any _ (by omega) (by omega) _).mono ?_; rintro e w' ⟨rfl, rfl⟩)
    | (go_at_call 75; refine (into_any _ (by omega) (by omega) _).mono ?_; rintro e w' ⟨rfl, rfl⟩))
  go_ret
  have l := Adl.lo_bd (a % 65536 % 65521) (b % 65536 % 65521)
  have h := Adl.hi_bd (a % 65536 % 65521) (a / 65536 % 65521) (b / 65536 % 65521) n
  exact ⟨ret_int (halves_or _ _ h.1 (by omega) l.1 (by omega)), rfl⟩

theorem join_out (a b n : Int) (h : n < 0 ∨ 1000000 < n) (w : World) :
    Calls Tryz.prog 46 #[.int .u32 a, .int .u32 b, .int .i64 n] w fun e w' => e = .returned (.int .u32 0) ∧ w' = w := by
  rcases h with h | h
  · go_enter Tryz.func46, Tryz.ntmps46
    go_wp2
    go_ret
    exact ⟨rfl, rfl⟩
  · have h' : ¬ n < 0 := by omega
    go_enter Tryz.func46, Tryz.ntmps46
    go_wp2
    go_ret
    exact ⟨rfl, rfl⟩

end Go.Proofs.YtbddkkfakkedaaaGreatDoor
namespace Go.Proofs.YtbddkkfakkedaaaGreatDoor
open Go.RowKit

theorem take_next (zs : List Int) (k : Nat) (h : k < zs.length) : zs.take (k + 1) = zs.take k ++ [zs.getD k 0] := by
  rw [List.take_succ_eq_append_getElem h]
  simp [List.getD, h]

theorem octets_take {zs : List Int} (h : Octets zs) (k : Nat) : Octets (zs.take k) := fun z hz => h z (List.mem_of_mem_take hz)
theorem octets_drop {zs : List Int} (h : Octets zs) (k : Nat) : Octets (zs.drop k) := fun z hz => h z (List.mem_of_mem_drop hz)

theorem not_any (c : Nat) (h : c < 4294967296) : bits .xor .u32 4294967295 (c : Int) = ((c ^^^ 4294967295 : Nat) : Int) := by
  rw [show (4294967295 : Int) = ((4294967295 : Nat) : Int) from rfl, u32_xor_nat _ _ (by decide) h, Nat.xor_comm]

theorem up_next (s t : Int) (zs : List Int) (k : Nat) (h : k < zs.length) :
    Adl.up s t (zs.take (k + 1)) = (((Adl.up s t (zs.take k)).1 + zs.getD k 0) % 65521, ((Adl.up s t (zs.take k)).2 + ((Adl.up s t (zs.take k)).1 + zs.getD k 0) % 65521) % 65521) := by
  rw [take_next zs k h, Adl.up_append]; rfl

theorem cr_next (c : Nat) (zs : List Int) (k : Nat) (h : k < zs.length) : Crc.cr c (zs.take (k + 1)) = Crc.one (Crc.cr c (zs.take k)) (zs.getD k 0) := by
  rw [take_next zs k h, Crc.cr_snoc]

theorem xor_byte (c : Nat) (y : Int) (hc : c < 4294967296) (hy : 0 ≤ y ∧ y ≤ 255) : bits .xor .u32 (c : Int) y = ((c ^^^ y.toNat : Nat) : Int) ∧ c ^^^ y.toNat < 4294967296 := by
  obtain ⟨Y, rfl⟩ := Int.eq_ofNat_of_zero_le hy.1
  exact ⟨xor_int c Y hc (by omega), Nat.xor_lt_two_pow (n := 32) hc (by simp; omega)⟩

set_option maxHeartbeats 1600000 in
/-- spec.CrcUpdate. -/
theorem scrc_any (c : Nat) (c1 : c < 4294967296) (ao : Option Addr) (cap : Nat) (zs : List Int) (w : World) (hr : Row w ao zs) (ho : Octets zs) (hl : zs.length ≤ 1048576) :
    Calls Tryz.prog 35 #[.int .u32 c, .slice ao zs.length cap] w fun e w' => e = .returned (.int .u32 (Crc.cr (c ^^^ 4294967295) zs ^^^ 4294967295 : Nat)) ∧ w' = w := by
  have hn := not_any c c1
  have hn' : c ^^^ 4294967295 < 4294967296 := Nat.xor_lt_two_pow (n := 32) c1 (by decide)
  go_enter Tryz.func35, Tryz.ntmps35
  go_wp2_with fail
  go_loop [0, 5] (fun s i => ∃ k : Nat, k ≤ zs.length ∧ i = .int .i64 k ∧ s = .int .u32 (Crc.cr (c ^^^ 4294967295) (zs.take k) : Nat)) (fun _ i => zs.length - (intOf i).toNat)
  case atStart => exact ⟨0, Nat.zero_le _, rfl, congrArg (Value.int .u32) hn⟩
  case round =>
    obtain ⟨k, hk, rfl, rfl⟩ := hrel
    have hbd := Crc.cr_lt (c ^^^ 4294967295) (zs.take k) hn' (octets_take ho k)
    by_cases hlt : k < zs.length
    · have HN : Hid _ := cr_next (c ^^^ 4294967295) zs k hlt
      obtain ⟨b, off, rfl, hc⟩ := hr.at hlt
      have hck := hc k hlt
      have hy := ho.getD k
      clear hc hr ho
      have hx := xor_byte (Crc.cr (c ^^^ 4294967295) (zs.take k)) _ hbd hy
      generalize Crc.cr (c ^^^ 4294967295) (zs.take k) = s at *
      generalize zs.getD k 0 = y at *
      have HX : Hid _ := hx.1
      have hx2 := hx.2
      clear hx
      go_wp2_with fail
      go_loop [0, 6] (fun u j => ∃ m : Nat, m ≤ 8 ∧ j = .int .i64 m ∧ u = .int .u32 (Crc.halves m (s ^^^ y.toNat) : Nat)) (fun _ j => 8 - (intOf j).toNat)
      case atStart => exact ⟨0, Nat.zero_le _, rfl, congrArg (Value.int .u32) HX.out⟩
      case round =>
        obtain ⟨m, hm, rfl, rfl⟩ := hrel
        have hh := Crc.halves_lt m _ hx2
        by_cases h8 : m < 8
        · go_wp2_with (go_at_call 63; refine (half_any _ hh _).mono ?_; rintro e w' ⟨rfl, rfl⟩)
          go_round
          case rel => exact ⟨m + 1, by omega, by go_num, by rw [Crc.halves_succ]⟩
          case measure => simp [intOf]; omega
        · have e : m = 8 := by omega
          subst e
          go_wp2_with fail
          go_round
          case rel => exact ⟨k + 1, by omega, by go_num, by rw [HN.out]; rfl⟩
          case measure => simp [intOf]; omega
    · have e : zs.take k = zs := List.take_of_length_le (by omega)
      rw [e] at hbd ⊢
      have hz := not_any _ hbd
      clear hr ho
      go_wp2_with fail
      go_ret
      exact ⟨ret_int hz, rfl⟩
/-- impl.crcZeroByte. -/
theorem zeroByte_any (c : Nat) (h : c < 4294967296) (w : World) :
    Calls Tryz.prog 94 #[.int .u32 c] w fun e w' => e = .returned (.int .u32 (Crc.halves 8 c : Nat)) ∧ w' = w := by
  go_enter Tryz.func94, Tryz.ntmps94
  go_wp2_with fail
  go_loop [0, 3] (fun u j => ∃ m : Nat, m ≤ 8 ∧ j = .int .i64 m ∧ u = .int .u32 (Crc.halves m c : Nat)) (fun _ j => 8 - (intOf j).toNat)
  case atStart => exact ⟨0, Nat.zero_le _, rfl, rfl⟩
  case round =>
    obtain ⟨m, hm, rfl, rfl⟩ := hrel
    have hh := Crc.halves_lt m _ h
    by_cases h8 : m < 8
    · go_wp2_with (go_at_call 138; refine (step_any _ hh _).mono ?_; rintro e w' ⟨rfl, rfl⟩)
      go_round
      case rel => exact ⟨m + 1, by omega, by go_num, by rw [Crc.halves_succ]⟩
      case measure => simp [intOf]; omega
    · have e : m = 8 := by omega
      subst e
      go_wp2_with fail
      go_ret
      exact ⟨rfl, rfl⟩

set_option maxHeartbeats 1600000 in
/-- impl.crcBitwise. -/
theorem bitwise_any (c : Nat) (c1 : c < 4294967296) (ao : Option Addr) (cap : Nat) (zs : List Int) (w : World) (hr : Row w ao zs) (ho : Octets zs) (hl : zs.length ≤ 1048576) :
    Calls Tryz.prog 57 #[.int .u32 c, .slice ao zs.length cap] w fun e w' => e = .returned (.int .u32 (Crc.cr (c ^^^ 4294967295) zs ^^^ 4294967295 : Nat)) ∧ w' = w := by
  have hn := not_any c c1
  have hn' : c ^^^ 4294967295 < 4294967296 := Nat.xor_lt_two_pow (n := 32) c1 (by decide)
  go_enter Tryz.func57, Tryz.ntmps57
  go_wp2_with fail
  go_loop [0, 11] (fun s i => ∃ k : Nat, k ≤ zs.length ∧ i = .int .i64 k ∧ s = .int .u32 (Crc.cr (c ^^^ 4294967295) (zs.take k) : Nat)) (fun _ i => zs.length - (intOf i).toNat)
  case atStart => exact ⟨0, Nat.zero_le _, rfl, congrArg (Value.int .u32) hn⟩
  case round =>
    obtain ⟨k, hk, rfl, rfl⟩ := hrel
    have hbd := Crc.cr_lt (c ^^^ 4294967295) (zs.take k) hn' (octets_take ho k)
    by_cases hlt : k < zs.length
    · have HN : Hid _ := cr_next (c ^^^ 4294967295) zs k hlt
      obtain ⟨b, off, rfl, hc⟩ := hr.at hlt
      have hck := hc k hlt
      have hy := ho.getD k
      clear hc hr ho
      have hx := xor_byte (Crc.cr (c ^^^ 4294967295) (zs.take k)) _ hbd hy
      generalize Crc.cr (c ^^^ 4294967295) (zs.take k) = s at *
      generalize zs.getD k 0 = y at *
      have HX : Hid _ := hx.1
      have hx2 := hx.2
      clear hx
      go_wp2_with fail
      rw [HX.out]
      refine (zeroByte_any _ hx2 _).mono ?_
      rintro e w' ⟨rfl, rfl⟩
      go_wp2_with fail
      go_round
      case rel => exact ⟨k + 1, by omega, by go_num, by rw [HN.out]; rfl⟩
      case measure => simp [intOf]; omega
    · have e : zs.take k = zs := List.take_of_length_le (by omega)
      rw [e] at hbd ⊢
      have hz := not_any _ hbd
      clear hr ho
      go_wp2_with fail
      go_ret
      exact ⟨ret_int hz, rfl⟩
def sliceLen : Value → Nat
  | .slice _ n _ => n
  | _ => 0

theorem raw_next (s t : Int) (zs : List Int) (k : Nat) (h : k < zs.length) :
    Adl.raw s t (zs.take (k + 1)) = ((Adl.raw s t (zs.take k)).1 + zs.getD k 0, (Adl.raw s t (zs.take k)).2 + ((Adl.raw s t (zs.take k)).1 + zs.getD k 0)) := by
  rw [take_next zs k h, Adl.raw_snoc]

set_option maxHeartbeats 1600000 in
/-- impl.adlerSum. -/
theorem adlerSum_any (a : Int) (a0 : 0 ≤ a) (a1 : a < 4294967296) (ao : Option Addr) (cap : Nat) (zs : List Int) (w : World) (hr : Row w ao zs) (ho : Octets zs) (hcap : zs.length ≤ cap) (hl : zs.length ≤ 1048576) :
    Calls Tryz.prog 42 #[.int .u32 a, .slice ao zs.length cap] w fun e w' => e = .returned (.int .u32 (Adl.whole (Adl.up (a % 65536 % 65521) (a / 65536 % 65521) zs))) ∧ w' = w := by
  go_enter Tryz.func42, Tryz.ntmps42
  go_wp2_with fail
  refine (halves_any a a0 a1 _).mono ?_
  rintro e w' ⟨rfl, rfl⟩
  go_wp2_with fail
  go_loop [1, 5, 6] (fun v s t => ∃ ao' cap' xs ys, zs = xs ++ ys ∧ v = .slice ao' ys.length cap' ∧ ys.length ≤ cap' ∧ Row w' ao' ys ∧ s = .int .u32 (Adl.up (a % 65536 % 65521) (a / 65536 % 65521) xs).1 ∧ t = .int .u32 (Adl.up (a % 65536 % 65521) (a / 65536 % 65521) xs).2) (fun v _ _ => sliceLen v)
  case atStart => exact ⟨ao, cap, [], zs, rfl, rfl, hcap, hr, rfl, rfl⟩
  case round =>
    clear hr hcap
    obtain ⟨ao, cap, xs, ys, rfl, rfl, hcap, hr, rfl, rfl⟩ := hrel
    have hbd := Adl.up_bd (a % 65536 % 65521) (a / 65536 % 65521) xs (by omega)
    by_cases hpos : 0 < ys.length
    · obtain ⟨b, off, rfl, hc⟩ := hr.at hpos
      obtain ⟨S, hS⟩ : ∃ S, Adl.up (a % 65536 % 65521) (a / 65536 % 65521) xs = S := ⟨_, rfl⟩
      have HS : Hid _ := hS
      have HR : Hid _ := hr
      rw [hS] at hbd ⊢
      clear hS hr
      have hoy : Hid (Octets ys) := fun z hz => ho z (List.mem_append_right _ hz)
      clear ho
      have hly : ys.length ≤ 1048576 := by rw [List.length_append] at hl; omega
      clear hl
      obtain ⟨s, t⟩ := S
      simp only at hbd ⊢
      by_cases hs : ys.length ≤ 5552
      · go_wp2_with fail
        go_loop [5, 6, 25] (fun p q i => ∃ j : Nat, j ≤ ys.length ∧ i = .int .i64 j ∧ p = .int .u32 (Adl.raw s t (ys.take j)).1 ∧ q = .int .u32 (Adl.raw s t (ys.take j)).2) (fun _ _ i => ys.length - (intOf i).toNat)
        case atStart => exact ⟨0, Nat.zero_le _, rfl, rfl, rfl⟩
        case round =>
          obtain ⟨j, hj, rfl, rfl, rfl⟩ := hrel
          have hb := Adl.raw_lt s t hbd (ys.take j) (octets_take hoy.out j) (by rw [List.length_take]; omega)
          by_cases hlt : j < ys.length
          · have hb2 := Adl.raw_lt s t hbd (ys.take (j + 1)) (octets_take hoy.out (j + 1)) (by rw [List.length_take]; omega)
            have hn := raw_next s t ys j (by omega)
            rw [hn] at hb2
            have HN : Hid _ := hn
            have hck := hc j (by omega)
            have hy := hoy.out.getD j
            clear hc hn
            generalize Adl.raw s t (ys.take j) = P at *
            generalize ys.getD j 0 = y at *
            obtain ⟨p, q⟩ := P
            simp only at hb hb2
            go_wp2_with fail
            go_round
            case rel => exact ⟨j + 1, by omega, by go_num, by rw [HN.out], by rw [HN.out]⟩
            case measure => simp [intOf]; omega
          · have e : j = ys.length := by omega
            subst e
            have hup := Adl.up_raw s t (ys.take ys.length) s t rfl rfl hbd
            have HU : Hid _ := hup
            clear hup hc
            have HB : Hid (0 ≤ (Adl.raw s t (ys.take ys.length)).1 ∧ 0 ≤ (Adl.raw s t (ys.take ys.length)).2) := ⟨hb.1, hb.2.2.1⟩
            generalize Adl.raw s t (ys.take ys.length) = P at *
            obtain ⟨p, q⟩ := P
            simp only at hb
            go_wp2_with fail
            have h1 : Adl.up (a % 65536 % 65521) (a / 65536 % 65521) (xs ++ ys) = (p % 65521, q % 65521) := by
              rw [Adl.up_append, HS.out]
              have := HU.out
              rwa [List.take_length] at this
            exact ⟨⟨_, _, xs ++ ys, [], by simp, rfl, by simp, Row.nil _ _, by rw [h1], by rw [h1]⟩, by simp [sliceLen]; omega⟩
      · obtain ⟨m, hm⟩ : ∃ m : Nat, m = 5552 := ⟨_, rfl⟩
        have hm1 : (5552 : Int) < ys.length := by omega
        go_wp2_with fail
        rw [← hm]
        have hma : (m : Int) ≤ 5552 := by omega
        have hmb : (5552 : Int) ≤ m := by omega
        have hmc : m < ys.length := by omega
        have HM : Hid (m = 5552) := hm
        rw [show (5552 : Int) = (m : Int) by omega]
        clear hm hm1
        go_loop [5, 6, 25] (fun p q i => ∃ j : Nat, j ≤ m ∧ i = .int .i64 j ∧ p = .int .u32 (Adl.raw s t (ys.take j)).1 ∧ q = .int .u32 (Adl.raw s t (ys.take j)).2) (fun _ _ i => m - (intOf i).toNat)
        case atStart => exact ⟨0, Nat.zero_le _, rfl, rfl, rfl⟩
        case round =>
          obtain ⟨j, hj, rfl, rfl, rfl⟩ := hrel
          have hb := Adl.raw_lt s t hbd (ys.take j) (octets_take hoy.out j) (by rw [List.length_take]; omega)
          by_cases hlt : j < m
          · have hb2 := Adl.raw_lt s t hbd (ys.take (j + 1)) (octets_take hoy.out (j + 1)) (by rw [List.length_take]; omega)
            have hn := raw_next s t ys j (by omega)
            rw [hn] at hb2
            have HN : Hid _ := hn
            have hck := hc j (by omega)
            have hy := hoy.out.getD j
            clear hc hn
            generalize Adl.raw s t (ys.take j) = P at *
            generalize ys.getD j 0 = y at *
            obtain ⟨p, q⟩ := P
            simp only at hb hb2
            clear hma hmb
            go_wp2_with fail
            go_round
            case rel => exact ⟨j + 1, by omega, by clear HN; go_num, by rw [HN.out], by rw [HN.out]⟩
            case measure => simp [intOf]; omega
          · have e : j = m := by omega
            rw [e]
            have hb := Adl.raw_lt s t hbd (ys.take m) (octets_take hoy.out m) (by rw [List.length_take]; omega)
            have hup := Adl.up_raw s t (ys.take m) s t rfl rfl hbd
            have HU : Hid _ := hup
            clear hup hc
            have HB : Hid (0 ≤ (Adl.raw s t (ys.take m)).1 ∧ 0 ≤ (Adl.raw s t (ys.take m)).2) := ⟨hb.1, hb.2.2.1⟩
            generalize Adl.raw s t (ys.take m) = P at *
            obtain ⟨p, q⟩ := P
            simp only at hb
            clear hma hmb
            go_wp2_with fail
            have hm := HM.out
            have h1 : Adl.up (a % 65536 % 65521) (a / 65536 % 65521) (xs ++ ys.take m) = (p % 65521, q % 65521) := by
              rw [Adl.up_append, HS.out]
              exact HU.out
            have hcut := Row.cut (cap := cap) (k := m) HR.out hcap
            have e2 : cutAt (some ⟨b, off, none⟩) cap m = some ⟨b, off + m, none⟩ := by
              unfold cutAt
              rw [if_neg (by omega)]
              simp [Addr.add_lit]
            rw [e2] at hcut
            have e3 : (ys.drop m).length = ys.length - m := by rw [List.length_drop]
            exact ⟨⟨some ⟨b, off + m, none⟩, cap - m, xs ++ ys.take m, ys.drop m, by simp, by rw [e3], by rw [e3]; omega, hcut, by rw [h1], by rw [h1]⟩, by simp only [sliceLen]; omega⟩
    · have e : ys = [] := List.length_eq_zero_iff.mp (by omega)
      subst e
      obtain ⟨S, hS⟩ : ∃ S, Adl.up (a % 65536 % 65521) (a / 65536 % 65521) xs = S := ⟨_, rfl⟩
      have HS : Hid _ := hS
      rw [hS] at hbd ⊢
      clear hS
      obtain ⟨s, t⟩ := S
      simp only at hbd ⊢
      clear hr ho
      go_wp2_with fail
      go_ret
      exact ⟨ret_int (by rw [HS.out, halves_or t s (by omega) (by omega) (by omega) (by omega)]; rfl), rfl⟩
end Go.Proofs.YtbddkkfakkedaaaGreatDoor
namespace Go.Proofs.YtbddkkfakkedaaaGreatDoor
open Go.RowKit
attribute [local go_sem ↓] Go.wp_at_zero Go.wp_at_succ

/-- The sum of a text. -/
def Adl.adl (zs : List Int) : Int := Adl.whole (Adl.up 1 0 zs)
theorem adl_bd (zs : List Int) : 0 ≤ Adl.adl zs ∧ Adl.adl zs < 4294967296 := (Adl.whole_lo _ (Adl.up_bd 1 0 zs (by omega))).2.2
theorem adl_lo (zs : List Int) : Adl.adl zs % 65536 % 65521 = (Adl.up 1 0 zs).1 ∧ Adl.adl zs / 65536 % 65521 = (Adl.up 1 0 zs).2 :=
  ⟨(Adl.whole_lo _ (Adl.up_bd 1 0 zs (by omega))).1, (Adl.whole_lo _ (Adl.up_bd 1 0 zs (by omega))).2.1⟩
theorem crc_lt (zs : List Int) (h : Octets zs) : Crc.crc zs < 4294967296 := Nat.xor_lt_two_pow (n := 32) (Crc.cr_lt _ zs (by decide) h) (by decide)

theorem scrc0_any (ao : Option Addr) (cap : Nat) (zs : List Int) (w : World) (hr : Row w ao zs) (ho : Octets zs) (hl : zs.length ≤ 1048576) :
    Calls Tryz.prog 35 #[.int .u32 0, .slice ao zs.length cap] w fun e w' => e = .returned (.int .u32 (Crc.crc zs : Nat)) ∧ w' = w := by
  have h := scrc_any 0 (by decide) ao cap zs w hr ho hl
  rw [Nat.zero_xor] at h
  exact h

/-- impl.AdlerUpdate, at a text of one part. -/
theorem aupd_any (a : Int) (a0 : 0 ≤ a) (a1 : a < 4294967296) (ao : Option Addr) (cap : Nat) (zs : List Int) (n : Nat) (hn : zs.length = n) (w : World) (hr : Row w ao zs) (ho : Octets zs) (hcap : zs.length ≤ cap) (hl : zs.length ≤ 65536) :
    Calls Tryz.prog 21 #[.int .u32 a, .slice ao n cap] w fun e w' => e = .returned (.int .u32 (Adl.whole (Adl.up (a % 65536 % 65521) (a / 65536 % 65521) zs))) ∧ w' = w := by
  subst hn
  go_enter Tryz.func21, Tryz.ntmps21
  go_wp2_with fail
  refine (adlerSum_any a a0 a1 ao cap zs _ hr ho hcap (by omega)).mono ?_
  rintro e w' ⟨rfl, rfl⟩
  go_wp2_with fail
  go_ret
  exact ⟨rfl, rfl⟩
theorem adl_first (ao : Option Addr) (cap : Nat) (zs : List Int) (n : Nat) (hn : zs.length = n) (w : World) (hr : Row w ao zs) (ho : Octets zs) (hcap : zs.length ≤ cap) (hl : zs.length ≤ 65536) :
    Calls Tryz.prog 21 #[.int .u32 1, .slice ao n cap] w fun e w' => e = .returned (.int .u32 (Adl.adl zs)) ∧ w' = w :=
  aupd_any 1 (by decide) (by decide) ao cap zs n hn w hr ho hcap hl
theorem adl_then (xs all : List Int) (ao : Option Addr) (cap : Nat) (zs : List Int) (n : Nat) (hn : zs.length = n) (hall : xs ++ zs = all) (w : World) (hr : Row w ao zs) (ho : Octets zs) (hcap : zs.length ≤ cap) (hl : zs.length ≤ 65536) :
    Calls Tryz.prog 21 #[.int .u32 (Adl.adl xs), .slice ao n cap] w fun e w' => e = .returned (.int .u32 (Adl.adl all)) ∧ w' = w := by
  have h := aupd_any (Adl.adl xs) (adl_bd xs).1 (adl_bd xs).2 ao cap zs n hn w hr ho hcap hl
  rw [(adl_lo xs).1, (adl_lo xs).2, ← Adl.up_append, hall] at h
  exact h
theorem adl_joined (xs ys all : List Int) (n : Nat) (hn : ys.length = n) (hall : xs ++ ys = all) (hl : n ≤ 1000000) (w : World) :
    Calls Tryz.prog 46 #[.int .u32 (Adl.adl xs), .int .u32 (Adl.adl ys), .int .i64 n] w fun e w' => e = .returned (.int .u32 (Adl.adl all)) ∧ w' = w := by
  subst hn
  have h := join_in (Adl.adl xs) (Adl.adl ys) ys.length (adl_bd xs).1 (adl_bd xs).2 (adl_bd ys).1 (adl_bd ys).2 (by omega) (by omega) w
  rw [(adl_lo xs).1, (adl_lo xs).2, (adl_lo ys).1, (adl_lo ys).2, Adl.join_eq, hall] at h
  exact h

/-- impl.CrcUpdate, at a short text. -/
theorem cupd_any (c : Nat) (c1 : c < 4294967296) (ao : Option Addr) (cap : Nat) (zs : List Int) (n : Nat) (hn : zs.length = n) (w : World) (hr : Row w ao zs) (ho : Octets zs) (hl : zs.length < 512) :
    Calls Tryz.prog 32 #[.int .u32 c, .slice ao n cap] w fun e w' => e = .returned (.int .u32 (Crc.cr (c ^^^ 4294967295) zs ^^^ 4294967295 : Nat)) ∧ w' = w := by
  subst hn
  have hi : (zs.length : Int) < 512 := by omega
  clear hl
  go_enter Tryz.func32, Tryz.ntmps32
  go_wp2_with fail
  refine (bitwise_any c c1 ao cap zs _ hr ho (by omega)).mono ?_
  rintro e w' ⟨rfl, rfl⟩
  go_wp2_with fail
  go_ret
  exact ⟨rfl, rfl⟩
theorem crc_first (ao : Option Addr) (cap : Nat) (zs : List Int) (n : Nat) (hn : zs.length = n) (w : World) (hr : Row w ao zs) (ho : Octets zs) (hl : zs.length < 512) :
    Calls Tryz.prog 32 #[.int .u32 0, .slice ao n cap] w fun e w' => e = .returned (.int .u32 (Crc.crc zs : Nat)) ∧ w' = w := by
  have h := cupd_any 0 (by decide) ao cap zs n hn w hr ho hl
  rw [Nat.zero_xor] at h
  exact h
theorem crc_then (xs all : List Int) (hx : Octets xs) (ao : Option Addr) (cap : Nat) (zs : List Int) (n : Nat) (hn : zs.length = n) (hall : xs ++ zs = all) (w : World) (hr : Row w ao zs) (ho : Octets zs) (hl : zs.length < 512) :
    Calls Tryz.prog 32 #[.int .u32 (Crc.crc xs : Nat), .slice ao n cap] w fun e w' => e = .returned (.int .u32 (Crc.crc all : Nat)) ∧ w' = w := by
  have h := cupd_any (Crc.crc xs) (crc_lt xs hx) ao cap zs n hn w hr ho hl
  have e : Crc.cr (Crc.crc xs ^^^ 4294967295) zs ^^^ 4294967295 = Crc.crc all := by
    subst hall
    unfold Crc.crc
    rw [Crc.xor_xor, ← Crc.cr_append]
  rw [e] at h
  exact h
theorem crc_joined (xs ys all : List Int) (hx : Octets xs) (hy : Octets ys) (n : Nat) (hn : ys.length = n) (hall : xs ++ ys = all) (hl : n ≤ 1000000) (w : World) :
    Calls Tryz.prog 61 #[.int .u32 (Crc.crc xs : Nat), .int .u32 (Crc.crc ys : Nat), .int .i64 n] w fun e w' => e = .returned (.int .u32 (Crc.crc all : Nat)) ∧ w' = w := by
  subst hn
  have h := cjoin_in (Crc.crc xs) (Crc.crc ys) ys.length (crc_lt xs hx) (crc_lt ys hy) hl w
  rw [Crc.join_eq, hall] at h
  exact h
end Go.Proofs.YtbddkkfakkedaaaGreatDoor
