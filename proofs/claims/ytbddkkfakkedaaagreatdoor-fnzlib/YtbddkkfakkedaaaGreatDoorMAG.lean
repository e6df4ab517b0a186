import Derived.Laws.BytesArg
import Derived.Deep.Cut
import Derived.Deep.CutRange
import Derived.Test.YtbddkkfakkedaaaGreatDoorMAD
import Derived.Test.YtbddkkfakkedaaaGreatDoorMAF
namespace Go.Proofs.YtbddkkfakkedaaaGreatDoor
open Go.RowKit
attribute [local go_sem ↓] Go.wp_at_zero Go.wp_at_succ
set_option linter.unusedVariables false

/-- The string over bytes that lie anywhere. -/
theorem conv_row (w : World) (ao : Option Addr) (cap : Nat) (zs : List Int) (h : Row w ao zs) :
    (convert 22 9 (.slice ao zs.length cap)).run Tryz.prog w = .ok (.string (strOfNums zs)) w := by
  cases ao with
  | none =>
    have : zs = [] := List.eq_nil_of_length_eq_zero (h.none_len rfl)
    subst this
    rw [run_convert_bytes_nil w 22 5 Tryz.underlying22 Tryz.underlying5 _ _ 9 Tryz.underlying9]
    rfl
  | some ad =>
    rcases Nat.eq_zero_or_pos zs.length with h0 | h0
    · have : zs = [] := List.eq_nil_of_length_eq_zero h0
      subst this
      rw [run_convert_bytes_string w 22 9 5 _ _ _ Tryz.underlying22 Tryz.underlying5 Tryz.underlying9, List.length_nil, run_bytesToString w ad 0 cap [] (by simpa using run_loadCells_list (P := Tryz.prog) w ad [] (by simp))]
      rfl
    · obtain ⟨b, off, e, hc⟩ := h.at h0
      simp only [Option.some.injEq] at e
      subst e
      exact run_convert_bytes_arg w 22 5 Tryz.underlying22 Tryz.underlying5 b off zs.length cap zs rfl hc 9 Tryz.underlying9
theorem lwBytes_same (ao bo : Option Addr) (ca cb : Nat) (zs : List Int) (w : World) (ha : Row w ao zs) (hb : Row w bo zs) :
    Calls Tryz.prog 8 #[.slice ao zs.length ca, .slice bo zs.length cb] w fun e w' => e = .returned (.bool true) ∧ w' = w := by
  have h1 := conv_row w ao ca zs ha
  have h2 := conv_row w bo cb zs hb
  clear ha hb
  generalize strOfNums zs = S at *
  go_enter Tryz.func8, Tryz.ntmps8
  go_wp2_with fail
  go_ret
  exact ⟨rfl, rfl⟩

end Go.Proofs.YtbddkkfakkedaaaGreatDoor
