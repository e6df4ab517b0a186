import Derived.Test.YtmfacacpoajpgabLawB
import Derived.Test.YtmfacacpoajpgabFive
namespace Go.Proofs.Ytmfacacpoajpgab
open Go.RowKit
attribute [local go_sem ↓] Go.wp_at_zero Go.wp_at_succ

set_option maxHeartbeats 1600000 in
/-- laws.eqBitRes, at two equal answers. -/
theorem eqBitRes_same (ok : Bool) (val : Nat) (ao bo : Option Addr) (ca cb : Nat) (zs : List Int) (a u : Int) (w : World) (ha : Row w ao zs) (hb : Row w bo zs) (hn : zs.length ≤ 140737488355328) :
    Calls Try.prog 21 #[.agg #[.bool ok, .int .u64 val, .slice ao zs.length ca, .int .i64 a, .int .i64 u], .agg #[.bool ok, .int .u64 val, .slice bo zs.length cb, .int .i64 a, .int .i64 u]] w fun e w' => e = .returned (.bool true) ∧ Below w.heap.size w w' := by
  have hbl : Below w.heap.size w ((w.alloc (.cells #[.bool ok, .int .u64 val, .slice ao zs.length ca, .int .i64 a, .int .i64 u] 37)).alloc (.cells #[.bool ok, .int .u64 val, .slice bo zs.length cb, .int .i64 a, .int .i64 u] 37)) := ((Below.refl _ _).alloc (Nat.le_refl _) _).alloc (by simp) _
  have h1 : (ok != ok) = false := by simp
  have h2 : (((val : Nat) : Int) != (val : Int)) = false := by simp
  go_enter Try.func21, Try.ntmps21
  go_wp2_with fail
  refine (eqBits_same ao bo ca cb zs a u _ (ha.below hbl) (hb.below hbl) hn).mono ?_
  rintro e w1 ⟨rfl, hb1⟩
  go_wp2_with fail
  go_ret
  exact ⟨rfl, hbl.trans (hb1.mono (by simp; omega))⟩

/-- laws.markBitRes. -/
theorem markBitRes_any (B : Nat) (ok : Bool) (val : Nat) (ao : Option Addr) (cap : Nat) (zs : List Int) (a u : Int) (k : Nat) (w : World) (hm : Mine B w ao cap zs) (hn : zs.length ≤ 140737488355328) (hk : k ≤ 140737488355328) :
    Calls Try.prog 22 #[.agg #[.bool ok, .int .u64 val, .slice ao zs.length cap, .int .i64 a, .int .i64 u], .int .i64 k] w fun e w' =>
      e = .returned (.int .i64 ((k + zs.length : Nat) : Int)) ∧ Mine B w' ao cap (marks k zs.length) ∧ w.grownBy w' (blk ao) := by
  have hm1 := hm.below ((Below.refl _ _).alloc (Nat.le_refl _) (.cells #[.bool ok, .int .u64 val, .slice ao zs.length cap, .int .i64 a, .int .i64 u] 37))
  go_enter Try.func22, Try.ntmps22
  go_wp2_with fail
  refine (markBits_any B ao cap zs a u k _ hm1 hn hk).mono ?_
  rintro e w1 ⟨rfl, h1, h3⟩
  go_wp2_with fail
  go_ret
  exact ⟨rfl, h1, grownBy_trans (World.grownBy_alloc w _ _) h3⟩

/-- laws.heldBitRes, at what markBitRes has left. -/
theorem heldBitRes_any (ok : Bool) (val : Nat) (ao : Option Addr) (cap n : Nat) (a u : Int) (k : Nat) (w : World) (hr : Row w ao (marks k n)) (hn : n ≤ 140737488355328) (hk : k ≤ 140737488355328) :
    Calls Try.prog 23 #[.agg #[.bool ok, .int .u64 val, .slice ao n cap, .int .i64 a, .int .i64 u], .int .i64 k] w fun e w' => e = .returned (.int .i64 ((k + n : Nat) : Int)) ∧ Below w.heap.size w w' := by
  have hbl : Below w.heap.size w (w.alloc (.cells #[.bool ok, .int .u64 val, .slice ao n cap, .int .i64 a, .int .i64 u] 37)) := (Below.refl _ _).alloc (Nat.le_refl _) _
  go_enter Try.func23, Try.ntmps23
  go_wp2_with fail
  refine (heldBits_any ao cap n a u k _ (hr.below hbl) hn hk).mono ?_
  rintro e w1 ⟨rfl, hb1⟩
  go_wp2_with fail
  go_ret
  exact ⟨rfl, hbl.trans (hb1.mono (by simp))⟩
end Go.Proofs.Ytmfacacpoajpgab
