import Derived.Test.YtmfacacpoajpgaaProg
import Derived.Test.YtmfacacpoajpgaaAdl
import Derived.WalkKit
import Derived.WalkSpells
import Derived.WalkLawsBesides
import Derived.BigQuiet
import Derived.Laws.BitsAllLaws
namespace Go.Proofs.Ytmfacacpoajpgaa
open Go.RowKit

theorem ret_int {k : IntKind} {a b : Int} (h : a = b) : Ending.returned (.int k a) = .returned (.int k b) := by rw [h]

theorem halves_any (a : Int) (h0 : 0 ≤ a) (h1 : a < 4294967296) (w : World) :
    Calls Try.prog 39 #[.int .u32 a] w fun e w' => e = .returned (.tuple #[.int .u32 (a % 65536 % 65521), .int .u32 (a / 65536 % 65521)]) ∧ w' = w := by
  go_enter Try.func39, Try.ntmps39
  go_wp2
  go_ret2
  exact ⟨rfl, rfl⟩

theorem into_eq (x : Int) : (wrap64 (x.tmod 65521 + 65521)).tmod 65521 % 4294967296 = x % 65521 := by
  have h := Adl.into x
  have h2 := Int.tmod_lt_of_pos x (b := 65521) (by decide)
  have h3 := Int.lt_tmod_of_pos x (b := 65521) (by decide)
  have e : wrap64 (x.tmod 65521 + 65521) = x.tmod 65521 + 65521 := by unfold wrap64; omega
  rw [e, Int.tmod_eq_emod_of_nonneg (by omega)]
  omega

theorem into_any (x : Int) (_h0 : -100000000000 ≤ x) (_h1 : x ≤ 100000000000) (w : World) :
    Calls Try.prog 40 #[.int .i64 x] w fun e w' => e = .returned (.int .u32 (x % 65521)) ∧ w' = w := by
  go_enter Try.func40, Try.ntmps40
  go_wp2
  go_ret
  exact ⟨ret_int (into_eq x), rfl⟩

/-- The two halves put together. -/
theorem halves_or (h l : Int) (h0 : 0 ≤ h) (h1 : h < 65536) (l0 : 0 ≤ l) (l1 : l < 65536) : bits .or .u32 (h * 65536) l = h * 65536 + l := by
  obtain ⟨H, rfl⟩ := Int.eq_ofNat_of_zero_le h0
  obtain ⟨L, rfl⟩ := Int.eq_ofNat_of_zero_le l0
  have e : ((H : Int) * 65536) = ((H * 65536 : Nat) : Int) := by omega
  rw [e, u32_or_nat _ _ (by omega) (by omega)]
  have e2 : H * 65536 ||| L = H * 65536 + L := by
    have := Nat.two_pow_add_eq_or_of_lt (i := 16) (b := L) (by omega) H
    rw [Nat.mul_comm, show (2 : Nat) ^ 16 = 65536 from rfl] at this
    exact this.symm
  omega

/-- impl.AdlerJoin, in range. -/
theorem join_in (a b n : Int) (a0 : 0 ≤ a) (a1 : a < 4294967296) (b0 : 0 ≤ b) (b1 : b < 4294967296) (n0 : 0 ≤ n) (n1 : n ≤ 1000000) (w : World) :
    Calls Try.prog 14 #[.int .u32 a, .int .u32 b, .int .i64 n] w fun e w' => e = .returned (.int .u32 (Adl.hi (a % 65536 % 65521) (a / 65536 % 65521) (b / 65536 % 65521) n * 65536 + Adl.lo (a % 65536 % 65521) (b % 65536 % 65521))) ∧ w' = w := by
  have hm := Adl.mul_bd n (a % 65536 % 65521 - 1) n0 n1 (by omega) (by omega)
  go_enter Try.func14, Try.ntmps14
  go_wp2_with (first
    | (go_at_call 39; refine (halves_any _ (by omega) (by omega) _).mono ?_; rintro e w' ⟨rfl, rfl⟩)
    | (go_at_call 40; refine (into_any _ (by omega) (by omega) _).mono ?_; rintro e w' ⟨rfl, rfl⟩))
  go_ret
  have l := Adl.lo_bd (a % 65536 % 65521) (b % 65536 % 65521)
  have h := Adl.hi_bd (a % 65536 % 65521) (a / 65536 % 65521) (b / 65536 % 65521) n
  exact ⟨ret_int (halves_or _ _ h.1 (by omega) l.1 (by omega)), rfl⟩

theorem join_out (a b n : Int) (h : n < 0 ∨ 1000000 < n) (w : World) :
    Calls Try.prog 14 #[.int .u32 a, .int .u32 b, .int .i64 n] w fun e w' => e = .returned (.int .u32 0) ∧ w' = w := by
  rcases h with h | h
  · go_enter Try.func14, Try.ntmps14
    go_wp2
    go_ret
    exact ⟨rfl, rfl⟩
  · have h' : ¬ n < 0 := by omega
    go_enter Try.func14, Try.ntmps14
    go_wp2
    go_ret
    exact ⟨rfl, rfl⟩

/-- spec.AdlerJoin. -/
theorem sjoin_out (a b n : Int) (h : n < 0 ∨ 1000000 < n) (w : World) :
    Calls Try.prog 17 #[.int .u32 a, .int .u32 b, .int .i64 n] w fun e w' => e = .returned (.int .u32 0) ∧ w' = w := by
  rcases h with h | h
  · go_enter Try.func17, Try.ntmps17
    go_wp2
    go_ret
    exact ⟨rfl, rfl⟩
  · have h' : ¬ n < 0 := by omega
    go_enter Try.func17, Try.ntmps17
    go_wp2
    go_ret
    exact ⟨rfl, rfl⟩

theorem spec_eq (a1 a2 b1 b2 n : Int) (h0 : 0 ≤ a2) (h1 : 0 ≤ b2) (h2 : a2 ≤ 65520) (h3 : b2 ≤ 65520) :
    wrap64 (wrap64 ((a2 + b2 + n % 65521 * ((a1 + 65521 - 1) % 65521)).tmod 65521 * 65536) + (a1 + b1 + 65521 - 1) % 65521) % 4294967296 = Adl.hi a1 a2 b2 n * 65536 + Adl.lo a1 b1 := by
  have hp : 0 ≤ n % 65521 * ((a1 + 65521 - 1) % 65521) := Int.mul_nonneg (by omega) (by omega)
  rw [Int.tmod_eq_emod_of_nonneg (by omega), Adl.hi_spec, Adl.lo_spec]
  have l := Adl.lo_bd a1 b1
  have h := Adl.hi_bd a1 a2 b2 n
  unfold wrap64
  omega

theorem sjoin_in (a b n : Int) (a0 : 0 ≤ a) (a1 : a < 4294967296) (b0 : 0 ≤ b) (b1 : b < 4294967296) (n0 : 0 ≤ n) (n1 : n ≤ 1000000) (w : World) :
    Calls Try.prog 17 #[.int .u32 a, .int .u32 b, .int .i64 n] w fun e w' => e = .returned (.int .u32 (Adl.hi (a % 65536 % 65521) (a / 65536 % 65521) (b / 65536 % 65521) n * 65536 + Adl.lo (a % 65536 % 65521) (b % 65536 % 65521))) ∧ ∃ k, w' = w.drewN k := by
  have hm := Adl.mul_bd (n % 65521) ((a % 65536 % 65521 + 65521 - 1) % 65521) (by omega) (by omega) (by omega) (by omega)
  go_enter Try.func17, Try.ntmps17
  go_wp2
  go_quiet (fail)
  go_wp2
  go_ret
  exact ⟨ret_int (spec_eq _ _ _ _ n (by omega) (by omega) (by omega) (by omega)), _, rfl⟩

/-- The law. -/
theorem law_adlerJoin (a b n : Int) (a0 : 0 ≤ a) (a1 : a < 4294967296) (b0 : 0 ≤ b) (b1 : b < 4294967296) (w : World) :
    Calls Try.prog 5 #[.int .u32 a, .int .u32 b, .int .i64 n] w fun e w' => e = .returned (.bool true) ∧ Grown w w' := by
  by_cases h : n < 0 ∨ 1000000 < n
  · go_enter Try.func5, Try.ntmps5
    go_wp2_with (first
      | (go_at_call 17; refine (sjoin_out a b n h _).mono ?_; rintro e w' ⟨rfl, rfl⟩)
      | (go_at_call 14; refine (join_out a b n h _).mono ?_; rintro e w' ⟨rfl, rfl⟩))
    go_ret
    exact ⟨rfl, Grown.refl _⟩
  · go_enter Try.func5, Try.ntmps5
    go_wp2_with (first
      | (go_at_call 17; refine (sjoin_in a b n a0 a1 b0 b1 (by omega) (by omega) _).mono ?_; rintro e w' ⟨rfl, k, rfl⟩)
      | (go_at_call 14; refine (join_in a b n a0 a1 b0 b1 (by omega) (by omega) _).mono ?_; rintro e w' ⟨rfl, rfl⟩))
    go_ret
    exact ⟨rfl, by repeat (first | exact Grown.refl _ | apply Grown.drew | apply Grown.alloc | apply Grown.drewN)⟩
end Go.Proofs.Ytmfacacpoajpgaa
