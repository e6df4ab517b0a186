import Derived.Test.YtmfacacpoajpgabProg
import Derived.Test.YtmfacacpoajpgabValid
import Derived.WalkKit
import Derived.WalkSpells
import Derived.WalkLawsBesides
import Derived.Deep.QuietTactic
import Derived.BigQuiet
namespace Go.Proofs.Ytmfacacpoajpgab
open Go.RowKit
set_option linter.unusedVariables false

set_option maxHeartbeats 4000000 in
theorem svalid_1 (ao : Option Addr) (n cap : Nat) (a u : Int) (w : World) (c1 : ¬ 0 ≤ a) :
    Calls Try.prog 40 #[.agg #[.slice ao n cap, .int .i64 a, .int .i64 u]] w fun e w' => e = .returned (.bool (vld n a u)) ∧ Below w.heap.size w w' := by
  have HV : Hid (false = vld n a u) := vld_false (by omega)
  have d1 : decide (0 ≤ a) = false := decide_eq_false c1
  have e1 : decide (a < 0) = true := decide_eq_true (by omega)
  go_enter Try.func40, Try.ntmps40
  go_wp2
  go_quiet ((go_at_call 62; exact Calls.quiet_of_same (most_any _)))
  go_wp2
  go_ret
  exact ⟨retb HV.out, by first | exact ((Below.refl _ _).alloc (Nat.le_refl _) _).trans (below_drewN' _ _ _) | exact (Below.refl _ _).alloc (Nat.le_refl _) _⟩

set_option maxHeartbeats 4000000 in
theorem svalid_2 (ao : Option Addr) (n cap : Nat) (a u : Int) (w : World) (c1 : 0 ≤ a) (c2 : ¬ a ≤ 7) :
    Calls Try.prog 40 #[.agg #[.slice ao n cap, .int .i64 a, .int .i64 u]] w fun e w' => e = .returned (.bool (vld n a u)) ∧ Below w.heap.size w w' := by
  have HV : Hid (false = vld n a u) := vld_false (by omega)
  have d2 : decide (a ≤ 7) = false := decide_eq_false c2
  have e2 : decide (7 < a) = true := decide_eq_true (by omega)
  go_enter Try.func40, Try.ntmps40
  go_wp2
  go_quiet ((go_at_call 62; exact Calls.quiet_of_same (most_any _)))
  go_wp2
  go_ret
  exact ⟨retb HV.out, by first | exact ((Below.refl _ _).alloc (Nat.le_refl _) _).trans (below_drewN' _ _ _) | exact (Below.refl _ _).alloc (Nat.le_refl _) _⟩

set_option maxHeartbeats 4000000 in
theorem svalid_3 (ao : Option Addr) (n cap : Nat) (a u : Int) (w : World) (c1 : 0 ≤ a) (c2 : a ≤ 7) (c3 : ¬ a = 0) (c4 : n = 0) :
    Calls Try.prog 40 #[.agg #[.slice ao n cap, .int .i64 a, .int .i64 u]] w fun e w' => e = .returned (.bool (vld n a u)) ∧ Below w.heap.size w w' := by
  have HV : Hid (false = vld n a u) := vld_false (by omega)
  have d3 : (a == 0) = false := by simpa using c3
  have e3 : (a != 0) = true := by simpa using c3
  subst c4
  have d4 : decide ((0 : Int) < ((0 : Nat) : Int)) = false := by decide
  have e4 : ((((0 : Nat) : Int)) == 0) = true := by decide
  clear c3
  go_enter Try.func40, Try.ntmps40
  go_wp2
  go_quiet ((go_at_call 62; exact Calls.quiet_of_same (most_any _)))
  go_wp2
  go_ret
  exact ⟨retb HV.out, by first | exact ((Below.refl _ _).alloc (Nat.le_refl _) _).trans (below_drewN' _ _ _) | exact (Below.refl _ _).alloc (Nat.le_refl _) _⟩

set_option maxHeartbeats 4000000 in
theorem svalid_A4 (ao : Option Addr) (n cap : Nat) (a u : Int) (w : World) (c1 : 0 ≤ a) (c2 : a ≤ 7) (c3 : a = 0) (c5 : ¬ n ≤ 1000000) :
    Calls Try.prog 40 #[.agg #[.slice ao n cap, .int .i64 a, .int .i64 u]] w fun e w' => e = .returned (.bool (vld n a u)) ∧ Below w.heap.size w w' := by
  have HV : Hid (false = vld n a u) := vld_false (by omega)
  have d3 : (a == 0) = true := by simpa using c3
  have e3 : (a != 0) = false := by simpa using c3
  have d5 : decide ((n : Int) ≤ 1000000) = false := decide_eq_false (by omega)
  clear c3
  go_enter Try.func40, Try.ntmps40
  go_wp2
  go_quiet ((go_at_call 62; exact Calls.quiet_of_same (most_any _)))
  go_wp2
  go_ret
  exact ⟨retb HV.out, by first | exact ((Below.refl _ _).alloc (Nat.le_refl _) _).trans (below_drewN' _ _ _) | exact (Below.refl _ _).alloc (Nat.le_refl _) _⟩

set_option maxHeartbeats 4000000 in
theorem svalid_A5 (ao : Option Addr) (n cap : Nat) (a u : Int) (w : World) (c1 : 0 ≤ a) (c2 : a ≤ 7) (c3 : a = 0) (c5 : n ≤ 1000000) (c6 : ¬ 0 ≤ u) :
    Calls Try.prog 40 #[.agg #[.slice ao n cap, .int .i64 a, .int .i64 u]] w fun e w' => e = .returned (.bool (vld n a u)) ∧ Below w.heap.size w w' := by
  have HV : Hid (false = vld n a u) := vld_false (by omega)
  have d3 : (a == 0) = true := by simpa using c3
  have e3 : (a != 0) = false := by simpa using c3
  have d5 : decide ((n : Int) ≤ 1000000) = true := decide_eq_true (by omega)
  have d6 : decide (0 ≤ u) = false := decide_eq_false c6
  clear c3
  go_enter Try.func40, Try.ntmps40
  go_wp2
  go_quiet ((go_at_call 62; exact Calls.quiet_of_same (most_any _)))
  go_wp2
  go_ret
  exact ⟨retb HV.out, by first | exact ((Below.refl _ _).alloc (Nat.le_refl _) _).trans (below_drewN' _ _ _) | exact (Below.refl _ _).alloc (Nat.le_refl _) _⟩

set_option maxHeartbeats 4000000 in
theorem svalid_A6 (ao : Option Addr) (n cap : Nat) (a u : Int) (w : World) (c1 : 0 ≤ a) (c2 : a ≤ 7) (c3 : a = 0) (c5 : n ≤ 1000000) (c6 : 0 ≤ u) (c7 : ¬ u ≤ 34359738368) :
    Calls Try.prog 40 #[.agg #[.slice ao n cap, .int .i64 a, .int .i64 u]] w fun e w' => e = .returned (.bool (vld n a u)) ∧ Below w.heap.size w w' := by
  have HV : Hid (false = vld n a u) := vld_false (by omega)
  have d3 : (a == 0) = true := by simpa using c3
  have e3 : (a != 0) = false := by simpa using c3
  have d5 : decide ((n : Int) ≤ 1000000) = true := decide_eq_true (by omega)
  have d7 : decide (u ≤ 34359738368) = false := decide_eq_false c7
  clear c3
  go_enter Try.func40, Try.ntmps40
  go_wp2
  go_quiet ((go_at_call 62; exact Calls.quiet_of_same (most_any _)))
  go_wp2
  go_ret
  exact ⟨retb HV.out, by first | exact ((Below.refl _ _).alloc (Nat.le_refl _) _).trans (below_drewN' _ _ _) | exact (Below.refl _ _).alloc (Nat.le_refl _) _⟩

set_option maxHeartbeats 4000000 in
theorem svalid_A7 (ao : Option Addr) (n cap : Nat) (a u : Int) (w : World) (c1 : 0 ≤ a) (c2 : a ≤ 7) (c3 : a = 0) (c5 : n ≤ 1000000) (c6 : 0 ≤ u) (c7 : u ≤ 34359738368) (c8 : ¬ u % 8 = a) :
    Calls Try.prog 40 #[.agg #[.slice ao n cap, .int .i64 a, .int .i64 u]] w fun e w' => e = .returned (.bool (vld n a u)) ∧ Below w.heap.size w w' := by
  have HV : Hid (false = vld n a u) := vld_false (by omega)
  have d3 : (a == 0) = true := by simpa using c3
  have e3 : (a != 0) = false := by simpa using c3
  have d5 : decide ((n : Int) ≤ 1000000) = true := decide_eq_true (by omega)
  have d8 : (u % 8 == a) = false := by simpa using c8
  clear c3 c8
  go_enter Try.func40, Try.ntmps40
  go_wp2
  go_quiet ((go_at_call 62; exact Calls.quiet_of_same (most_any _)))
  go_wp2
  go_ret
  exact ⟨retb HV.out, by first | exact ((Below.refl _ _).alloc (Nat.le_refl _) _).trans (below_drewN' _ _ _) | exact (Below.refl _ _).alloc (Nat.le_refl _) _⟩

set_option maxHeartbeats 4000000 in
theorem svalid_A8 (ao : Option Addr) (n cap : Nat) (a u : Int) (w : World) (c1 : 0 ≤ a) (c2 : a ≤ 7) (c3 : a = 0) (c5 : n ≤ 1000000) (c6 : 0 ≤ u) (c7 : u ≤ 34359738368) (c8 : u % 8 = a) :
    Calls Try.prog 40 #[.agg #[.slice ao n cap, .int .i64 a, .int .i64 u]] w fun e w' => e = .returned (.bool (vld n a u)) ∧ Below w.heap.size w w' := by
  have HV : Hid (true = vld n a u) := vld_true (by omega)
  have d3 : (a == 0) = true := by simpa using c3
  have e3 : (a != 0) = false := by simpa using c3
  have d5 : decide ((n : Int) ≤ 1000000) = true := decide_eq_true (by omega)
  have d8 : (u % 8 == a) = true := by simpa using c8
  clear c3 c8
  go_enter Try.func40, Try.ntmps40
  go_wp2
  go_quiet ((go_at_call 62; exact Calls.quiet_of_same (most_any _)))
  go_wp2
  go_ret
  exact ⟨retb HV.out, by first | exact ((Below.refl _ _).alloc (Nat.le_refl _) _).trans (below_drewN' _ _ _) | exact (Below.refl _ _).alloc (Nat.le_refl _) _⟩

set_option maxHeartbeats 4000000 in
theorem svalid_B4 (ao : Option Addr) (n cap : Nat) (a u : Int) (w : World) (c1 : 0 ≤ a) (c2 : a ≤ 7) (c3 : ¬ a = 0) (c4 : 0 < n) (c5 : ¬ n ≤ 1000000) :
    Calls Try.prog 40 #[.agg #[.slice ao n cap, .int .i64 a, .int .i64 u]] w fun e w' => e = .returned (.bool (vld n a u)) ∧ Below w.heap.size w w' := by
  have HV : Hid (false = vld n a u) := vld_false (by omega)
  have d3 : (a == 0) = false := by simpa using c3
  have e3 : (a != 0) = true := by simpa using c3
  have d4 : decide ((0 : Int) < (n : Int)) = true := decide_eq_true (by omega)
  have e4 : ((n : Int) == 0) = false := by simp; omega
  have d5 : decide ((n : Int) ≤ 1000000) = false := decide_eq_false (by omega)
  clear c3
  go_enter Try.func40, Try.ntmps40
  go_wp2
  go_quiet ((go_at_call 62; exact Calls.quiet_of_same (most_any _)))
  go_wp2
  go_ret
  exact ⟨retb HV.out, by first | exact ((Below.refl _ _).alloc (Nat.le_refl _) _).trans (below_drewN' _ _ _) | exact (Below.refl _ _).alloc (Nat.le_refl _) _⟩

set_option maxHeartbeats 4000000 in
theorem svalid_B5 (ao : Option Addr) (n cap : Nat) (a u : Int) (w : World) (c1 : 0 ≤ a) (c2 : a ≤ 7) (c3 : ¬ a = 0) (c4 : 0 < n) (c5 : n ≤ 1000000) (c6 : ¬ 0 ≤ u) :
    Calls Try.prog 40 #[.agg #[.slice ao n cap, .int .i64 a, .int .i64 u]] w fun e w' => e = .returned (.bool (vld n a u)) ∧ Below w.heap.size w w' := by
  have HV : Hid (false = vld n a u) := vld_false (by omega)
  have d3 : (a == 0) = false := by simpa using c3
  have e3 : (a != 0) = true := by simpa using c3
  have d4 : decide ((0 : Int) < (n : Int)) = true := decide_eq_true (by omega)
  have e4 : ((n : Int) == 0) = false := by simp; omega
  have d5 : decide ((n : Int) ≤ 1000000) = true := decide_eq_true (by omega)
  have d6 : decide (0 ≤ u) = false := decide_eq_false c6
  clear c3
  go_enter Try.func40, Try.ntmps40
  go_wp2
  go_quiet ((go_at_call 62; exact Calls.quiet_of_same (most_any _)))
  go_wp2
  go_ret
  exact ⟨retb HV.out, by first | exact ((Below.refl _ _).alloc (Nat.le_refl _) _).trans (below_drewN' _ _ _) | exact (Below.refl _ _).alloc (Nat.le_refl _) _⟩

set_option maxHeartbeats 4000000 in
theorem svalid_B6 (ao : Option Addr) (n cap : Nat) (a u : Int) (w : World) (c1 : 0 ≤ a) (c2 : a ≤ 7) (c3 : ¬ a = 0) (c4 : 0 < n) (c5 : n ≤ 1000000) (c6 : 0 ≤ u) (c7 : ¬ u ≤ 34359738368) :
    Calls Try.prog 40 #[.agg #[.slice ao n cap, .int .i64 a, .int .i64 u]] w fun e w' => e = .returned (.bool (vld n a u)) ∧ Below w.heap.size w w' := by
  have HV : Hid (false = vld n a u) := vld_false (by omega)
  have d3 : (a == 0) = false := by simpa using c3
  have e3 : (a != 0) = true := by simpa using c3
  have d4 : decide ((0 : Int) < (n : Int)) = true := decide_eq_true (by omega)
  have e4 : ((n : Int) == 0) = false := by simp; omega
  have d5 : decide ((n : Int) ≤ 1000000) = true := decide_eq_true (by omega)
  have d7 : decide (u ≤ 34359738368) = false := decide_eq_false c7
  clear c3
  go_enter Try.func40, Try.ntmps40
  go_wp2
  go_quiet ((go_at_call 62; exact Calls.quiet_of_same (most_any _)))
  go_wp2
  go_ret
  exact ⟨retb HV.out, by first | exact ((Below.refl _ _).alloc (Nat.le_refl _) _).trans (below_drewN' _ _ _) | exact (Below.refl _ _).alloc (Nat.le_refl _) _⟩

set_option maxHeartbeats 4000000 in
theorem svalid_B7 (ao : Option Addr) (n cap : Nat) (a u : Int) (w : World) (c1 : 0 ≤ a) (c2 : a ≤ 7) (c3 : ¬ a = 0) (c4 : 0 < n) (c5 : n ≤ 1000000) (c6 : 0 ≤ u) (c7 : u ≤ 34359738368) (c8 : ¬ u % 8 = a) :
    Calls Try.prog 40 #[.agg #[.slice ao n cap, .int .i64 a, .int .i64 u]] w fun e w' => e = .returned (.bool (vld n a u)) ∧ Below w.heap.size w w' := by
  have HV : Hid (false = vld n a u) := vld_false (by omega)
  have d3 : (a == 0) = false := by simpa using c3
  have e3 : (a != 0) = true := by simpa using c3
  have d4 : decide ((0 : Int) < (n : Int)) = true := decide_eq_true (by omega)
  have e4 : ((n : Int) == 0) = false := by simp; omega
  have d5 : decide ((n : Int) ≤ 1000000) = true := decide_eq_true (by omega)
  have d8 : (u % 8 == a) = false := by simpa using c8
  clear c3 c8
  go_enter Try.func40, Try.ntmps40
  go_wp2
  go_quiet ((go_at_call 62; exact Calls.quiet_of_same (most_any _)))
  go_wp2
  go_ret
  exact ⟨retb HV.out, by first | exact ((Below.refl _ _).alloc (Nat.le_refl _) _).trans (below_drewN' _ _ _) | exact (Below.refl _ _).alloc (Nat.le_refl _) _⟩

set_option maxHeartbeats 4000000 in
theorem svalid_B8 (ao : Option Addr) (n cap : Nat) (a u : Int) (w : World) (c1 : 0 ≤ a) (c2 : a ≤ 7) (c3 : ¬ a = 0) (c4 : 0 < n) (c5 : n ≤ 1000000) (c6 : 0 ≤ u) (c7 : u ≤ 34359738368) (c8 : u % 8 = a) :
    Calls Try.prog 40 #[.agg #[.slice ao n cap, .int .i64 a, .int .i64 u]] w fun e w' => e = .returned (.bool (vld n a u)) ∧ Below w.heap.size w w' := by
  have HV : Hid (true = vld n a u) := vld_true (by omega)
  have d3 : (a == 0) = false := by simpa using c3
  have e3 : (a != 0) = true := by simpa using c3
  have d4 : decide ((0 : Int) < (n : Int)) = true := decide_eq_true (by omega)
  have e4 : ((n : Int) == 0) = false := by simp; omega
  have d5 : decide ((n : Int) ≤ 1000000) = true := decide_eq_true (by omega)
  have d8 : (u % 8 == a) = true := by simpa using c8
  clear c3 c8
  go_enter Try.func40, Try.ntmps40
  go_wp2
  go_quiet ((go_at_call 62; exact Calls.quiet_of_same (most_any _)))
  go_wp2
  go_ret
  exact ⟨retb HV.out, by first | exact ((Below.refl _ _).alloc (Nat.le_refl _) _).trans (below_drewN' _ _ _) | exact (Below.refl _ _).alloc (Nat.le_refl _) _⟩

theorem svalid_any (ao : Option Addr) (n cap : Nat) (a u : Int) (w : World) :
    Calls Try.prog 40 #[.agg #[.slice ao n cap, .int .i64 a, .int .i64 u]] w fun e w' => e = .returned (.bool (vld n a u)) ∧ Below w.heap.size w w' := by
  by_cases c1 : 0 ≤ a
  · by_cases c2 : a ≤ 7
    · by_cases c3 : a = 0
      · by_cases c5 : n ≤ 1000000
        · by_cases c6 : 0 ≤ u
          · by_cases c7 : u ≤ 34359738368
            · by_cases c8 : u % 8 = a
              · exact svalid_A8 ao n cap a u w c1 c2 c3 c5 c6 c7 c8
              · exact svalid_A7 ao n cap a u w c1 c2 c3 c5 c6 c7 c8
            · exact svalid_A6 ao n cap a u w c1 c2 c3 c5 c6 c7
          · exact svalid_A5 ao n cap a u w c1 c2 c3 c5 c6
        · exact svalid_A4 ao n cap a u w c1 c2 c3 c5
      · by_cases c4 : 0 < n
        · by_cases c5 : n ≤ 1000000
          · by_cases c6 : 0 ≤ u
            · by_cases c7 : u ≤ 34359738368
              · by_cases c8 : u % 8 = a
                · exact svalid_B8 ao n cap a u w c1 c2 c3 c4 c5 c6 c7 c8
                · exact svalid_B7 ao n cap a u w c1 c2 c3 c4 c5 c6 c7 c8
              · exact svalid_B6 ao n cap a u w c1 c2 c3 c4 c5 c6 c7
            · exact svalid_B5 ao n cap a u w c1 c2 c3 c4 c5 c6
          · exact svalid_B4 ao n cap a u w c1 c2 c3 c4 c5
        · exact svalid_3 ao n cap a u w c1 c2 c3 (by omega)
    · exact svalid_2 ao n cap a u w c1 c2
  · exact svalid_1 ao n cap a u w c1

end Go.Proofs.Ytmfacacpoajpgab
