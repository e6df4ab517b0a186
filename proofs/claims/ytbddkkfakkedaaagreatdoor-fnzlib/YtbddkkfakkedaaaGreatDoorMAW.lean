import Derived.Laws.BitsAllLaws
import Derived.Test.YtbddkkfakkedaaaGreatDoorProg
import Derived.WalkKit
import Derived.WalkSpells
import Derived.WalkLawsBesides
import Derived.BigQuiet
namespace Go.Proofs.YtbddkkfakkedaaaGreatDoor
open Go.RowKit
set_option linter.unusedVariables false

theorem zand_split (hi lo mh ml : Nat) (h1 : lo < 2 ^ 16) (h2 : ml < 2 ^ 16) : (2 ^ 16 * hi + lo) &&& (2 ^ 16 * mh + ml) = 2 ^ 16 * (hi &&& mh) + (lo &&& ml) := by
  refine Nat.eq_of_testBit_eq fun j => ?_
  rw [Nat.testBit_and, Nat.testBit_two_pow_mul_add _ h1, Nat.testBit_two_pow_mul_add _ h2, Nat.testBit_two_pow_mul_add _ (Nat.and_lt_two_pow lo h2)]
  split <;> rw [Nat.testBit_and]
theorem zor_split (hi lo mh ml : Nat) (h1 : lo < 2 ^ 16) (h2 : ml < 2 ^ 16) : (2 ^ 16 * hi + lo) ||| (2 ^ 16 * mh + ml) = 2 ^ 16 * (hi ||| mh) + (lo ||| ml) := by
  refine Nat.eq_of_testBit_eq fun j => ?_
  rw [Nat.testBit_or, Nat.testBit_two_pow_mul_add _ h1, Nat.testBit_two_pow_mul_add _ h2, Nat.testBit_two_pow_mul_add _ (Nat.or_lt_two_pow h1 h2)]
  split <;> rw [Nat.testBit_or]
theorem zor_low (k a b : Nat) (h : b < 2 ^ k) : b ||| 2 ^ k * a = 2 ^ k * a + b := by rw [Nat.or_comm, ← Nat.two_pow_add_eq_or_of_lt h]
/-- The four bytes of a number turned round. -/
def rb4 (x : Nat) : Nat := x / 16777216 % 256 + 256 * (x / 65536 % 256) + 65536 * (x / 256 % 256) + 16777216 * (x % 256)
theorem rb4_lt (x : Nat) : rb4 x < 4294967296 := by unfold rb4; omega
theorem digits4 (x : Nat) (h : x < 4294967296) : x = x % 256 + 256 * (x / 256 % 256) + 65536 * (x / 65536 % 256) + 16777216 * (x / 16777216 % 256) := by
  have h1 : x / 65536 = x / 256 / 256 := by rw [Nat.div_div_eq_div_mul]
  have h2 : x / 16777216 = x / 256 / 256 / 256 := by rw [Nat.div_div_eq_div_mul, Nat.div_div_eq_div_mul]
  rw [h1, h2]
  omega
theorem rb4_of (a b c d : Nat) (ha : a < 256) (hb : b < 256) (hc : c < 256) (hd : d < 256) : rb4 (a + 256 * b + 65536 * c + 16777216 * d) = d + 256 * c + 65536 * b + 16777216 * a := by
  unfold rb4
  have e1 : (a + 256 * b + 65536 * c + 16777216 * d) / 16777216 % 256 = d := by omega
  have e2 : (a + 256 * b + 65536 * c + 16777216 * d) / 65536 % 256 = c := by omega
  have e3 : (a + 256 * b + 65536 * c + 16777216 * d) / 256 % 256 = b := by omega
  have e4 : (a + 256 * b + 65536 * c + 16777216 * d) % 256 = a := by omega
  rw [e1, e2, e3, e4]
theorem rb4_rb4 (x : Nat) (h : x < 4294967296) : rb4 (rb4 x) = x := by
  have hd := digits4 x h
  obtain ⟨a, ha⟩ : ∃ a, x % 256 = a := ⟨_, rfl⟩
  obtain ⟨b, hb⟩ : ∃ a, x / 256 % 256 = a := ⟨_, rfl⟩
  obtain ⟨c, hc⟩ : ∃ a, x / 65536 % 256 = a := ⟨_, rfl⟩
  obtain ⟨d, hd2⟩ : ∃ a, x / 16777216 % 256 = a := ⟨_, rfl⟩
  rw [ha, hb, hc, hd2] at hd
  rw [hd, rb4_of a b c d (by omega) (by omega) (by omega) (by omega), rb4_of d c b a (by omega) (by omega) (by omega) (by omega)]
theorem zrev_a (a b c d : Nat) (ha : a < 256) (hb : b < 256) (hc : c < 256) (hd : d < 256) : (b + 256 * c + 65536 * d) &&& 16711935 = b + 65536 * d := by
  have h := zand_split d (b + 256 * c) 255 255 (by omega) (by decide)
  rw [show (b + 256 * c + 65536 * d) = 2 ^ 16 * d + (b + 256 * c) by omega, show (16711935 : Nat) = 2 ^ 16 * 255 + 255 by decide, h, show (255 : Nat) = 2 ^ 8 - 1 from rfl, Nat.and_two_pow_sub_one_eq_mod, Nat.and_two_pow_sub_one_eq_mod]
  omega
theorem zrev_b (a b c d : Nat) (ha : a < 256) (hb : b < 256) (hc : c < 256) (hd : d < 256) : (a + 256 * b + 65536 * c + 16777216 * d) &&& 16711935 = a + 65536 * c := by
  have h := zand_split (c + 256 * d) (a + 256 * b) 255 255 (by omega) (by decide)
  rw [show (a + 256 * b + 65536 * c + 16777216 * d) = 2 ^ 16 * (c + 256 * d) + (a + 256 * b) by omega, show (16711935 : Nat) = 2 ^ 16 * 255 + 255 by decide, h, show (255 : Nat) = 2 ^ 8 - 1 from rfl, Nat.and_two_pow_sub_one_eq_mod, Nat.and_two_pow_sub_one_eq_mod]
  omega
theorem zrev_c (a b c d : Nat) (ha : a < 256) (hb : b < 256) (hc : c < 256) (hd : d < 256) : (b + 65536 * d) ||| (256 * a + 16777216 * c) = b + 256 * a + 65536 * d + 16777216 * c := by
  have h := zor_split d b (256 * c) (256 * a) (by omega) (by omega)
  have e1 := zor_low 8 a b (by omega)
  have e2 := zor_low 8 c d (by omega)
  rw [show (2 : Nat) ^ 8 = 256 from rfl] at e1 e2
  rw [show b + 65536 * d = 2 ^ 16 * d + b by omega, show 256 * a + 16777216 * c = 2 ^ 16 * (256 * c) + 256 * a by omega, h, e1, e2]
  omega
set_option maxRecDepth 100000 in
set_option maxHeartbeats 3200000 in
theorem revb_any (X : Nat) (hX : X < 4294967296) (w : World) :
    Calls Tryz.prog 41 #[.int .u32 (X : Nat)] w fun e w' => e = .returned (.int .u32 (rb4 X : Nat)) ∧ w' = w := by
  obtain ⟨a, ha⟩ : ∃ a, X % 256 = a := ⟨_, rfl⟩
  obtain ⟨b, hb⟩ : ∃ b, X / 256 % 256 = b := ⟨_, rfl⟩
  obtain ⟨c, hc⟩ : ∃ c, X / 65536 % 256 = c := ⟨_, rfl⟩
  obtain ⟨d, hd⟩ : ∃ d, X / 16777216 % 256 = d := ⟨_, rfl⟩
  have hR : rb4 X = d + 256 * c + 65536 * b + 16777216 * a := by unfold rb4; rw [ha, hb, hc, hd]
  have hXe : X = a + 256 * b + 65536 * c + 16777216 * d := by
    have h := digits4 X hX
    rw [ha, hb, hc, hd] at h
    exact h
  have ha2 : a < 256 := by omega
  have hb2 : b < 256 := by omega
  have hc2 : c < 256 := by omega
  have hd2 : d < 256 := by omega
  have q1 : (X : Int) / 256 = ((b + 256 * c + 65536 * d : Nat) : Int) := by omega
  have q2 : bits .and .u32 ((X : Int) / 256) 16711935 = ((b + 65536 * d : Nat) : Int) := by
    rw [q1, show (16711935 : Int) = ((16711935 : Nat) : Int) from rfl, u32_and_nat _ _ (by omega) (by decide), zrev_a a b c d ha2 hb2 hc2 hd2]
  have q3 : bits .and .u32 (X : Int) 16711935 = ((a + 65536 * c : Nat) : Int) := by
    rw [hXe, show (16711935 : Int) = ((16711935 : Nat) : Int) from rfl, u32_and_nat _ _ (by omega) (by decide), zrev_b a b c d ha2 hb2 hc2 hd2]
  obtain ⟨U, hU⟩ : ∃ U, b + 65536 * d = U := ⟨_, rfl⟩
  obtain ⟨V, hV⟩ : ∃ V, a + 65536 * c = V := ⟨_, rfl⟩
  rw [hU] at q2
  rw [hV] at q3
  have q4 : IntKind.u32.wrap ((V : Int) * 256) = ((256 * a + 16777216 * c : Nat) : Int) := by
    rw [IntKind.wrap_u32]
    omega
  obtain ⟨V2, hV2⟩ : ∃ V2, 256 * a + 16777216 * c = V2 := ⟨_, rfl⟩
  rw [hV2] at q4
  have q5 : bits .or .u32 (U : Int) (V2 : Int) = ((b + 256 * a + 65536 * d + 16777216 * c : Nat) : Int) := by
    rw [u32_or_nat _ _ (by omega) (by omega), ← hU, ← hV2, zrev_c a b c d ha2 hb2 hc2 hd2]
  obtain ⟨Y, hY⟩ : ∃ Y, b + 256 * a + 65536 * d + 16777216 * c = Y := ⟨_, rfl⟩
  rw [hY] at q5
  have q6 : (Y : Int) / 65536 = ((d + 256 * c : Nat) : Int) := by omega
  have q7 : IntKind.u32.wrap ((Y : Int) * 65536) = ((2 ^ 16 * (b + 256 * a) : Nat) : Int) := by
    rw [IntKind.wrap_u32]
    omega
  obtain ⟨S, hS⟩ : ∃ S, d + 256 * c = S := ⟨_, rfl⟩
  obtain ⟨T, hT⟩ : ∃ T, 2 ^ 16 * (b + 256 * a) = T := ⟨_, rfl⟩
  rw [hS] at q6
  rw [hT] at q7
  have q8 : bits .or .u32 (S : Int) (T : Int) = ((rb4 X : Nat) : Int) := by
    have e1 := zor_low 16 (b + 256 * a) S (by omega)
    rw [u32_or_nat _ _ (by omega) (by omega), ← hT, e1, hR]
    omega
  have HR := hR
  clear hR hXe ha hb hc hd hU hV hV2 hY hS hT q1 HR
  generalize rb4 X = R at *
  go_enter Tryz.func41, Tryz.ntmps41
  go_wp2_with fail
  go_ret
  exact ⟨rfl, rfl⟩
end Go.Proofs.YtbddkkfakkedaaaGreatDoor
