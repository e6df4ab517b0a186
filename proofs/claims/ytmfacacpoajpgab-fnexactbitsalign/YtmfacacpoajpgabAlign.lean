import Derived.Test.YtmfacacpoajpgabSrc
import Derived.Test.YtmfacacpoajpgabValidI
import Derived.Test.YtmfacacpoajpgabValidS
namespace Go.Proofs.Ytmfacacpoajpgab
open Go.RowKit
attribute [local go_sem ↓] Go.wp_at_zero Go.wp_at_succ

/-- How many bits are left in the byte. -/
def restA (a : Int) : Int := (8 - a) % 8
def cutA (a : Int) : Nat := if a = 0 then 0 else 1

theorem src_alloc {w : World} {p : Nat} {v : Value} {a u : Int} (h : Src w p v a u) (o : Obj) : Src (w.alloc o) p v a u :=
  h.grown (World.grownBy_alloc w o none) (by simp)

set_option maxHeartbeats 3200000 in
/-- (bitReader).align. -/
theorem align_any (p : Nat) (ao : Option Addr) (len cap : Nat) (a u : Int) (w : World) (hs : Src w p (.slice ao len cap) a u) (hv : vld len a u = true) :
    Calls Try.prog 51 #[.agg #[.pointer (some ⟨p, 0, none⟩)]] w fun e w' => e = .returned (.tuple #[]) ∧
      Src w' p (.slice (cutAt ao cap (cutA a)) (len - cutA a) (cap - cutA a)) 0 (u + restA a) ∧ w.grownBy w' (some p) := by
  obtain ⟨a0, a7, al, hl, u0, u1, um⟩ := vld_out hv
  have hp : p < w.heap.size := World.block_lt_of_cell? w _ hs.1
  have hne : w.heap.size ≠ p := by omega
  have hs' := hs
  obtain ⟨c0, c1, c2, f0, f1, f2⟩ := hs'
  by_cases hz : a = 0
  · subst hz
    have HB : Hid (hasB len 0 u 0 = true) := decide_eq_true (by omega)
    have HU : Hid (u + restA 0 = u + 0) := rfl
    have HC : Hid (cutA 0 = 0) := rfl
    clear hv al um a0 a7
    have hs2 := src_alloc hs (Obj.cells #[Value.pointer (some ⟨p, 0, none⟩)] 68)
    go_enter Try.func51, Try.ntmps51
    go_wp2_with fail
    refine (has_any p ao len cap 0 u 0 _ hs2 hl (by omega) (by omega) u0 u1 (by omega) (by omega)).mono ?_
    rintro e w' ⟨rfl, q, rfl⟩
    rw [HB.out]
    go_wp2_with fail
    refine (pass_any p ao len cap 0 u 0 _ (hs2.drewN q) hl (by omega) (by omega) u0 u1 (by omega) (by omega)).mono ?_
    rintro e w' ⟨rfl, h1, h2, h3⟩
    go_wp2_with fail
    go_end0
    refine ⟨rfl, ?_, ?_⟩
    · rw [HU.out, HC.out]; exact h1
    · exact grownBy_trans (grownBy_trans (World.grownBy_alloc w _ _) (grownBy_of_below (below_drewN' _ _ _) _)) h2
  · have hr : (8 - a) % 8 = 8 - a := by omega
    have hr' : -a % 8 = 8 - a := by omega
    have hln : 0 < len := by omega
    have HB : Hid (hasB len a u (8 - a) = true) := decide_eq_true (by omega)
    have HU : Hid (u + restA a = u + (8 - a)) := by show u + restA a = u + (8 - a); unfold restA; rw [hr]
    have HC : Hid (cutA a = 1) := if_neg hz
    have hs2 := src_alloc hs (Obj.cells #[Value.pointer (some ⟨p, 0, none⟩)] 68)
    clear hv al um
    go_enter Try.func51, Try.ntmps51
    go_wp2_with fail
    refine (has_any p ao len cap a u (8 - a) _ hs2 hl (by omega) (by omega) u0 u1 (by omega) (by omega)).mono ?_
    rintro e w' ⟨rfl, q, rfl⟩
    rw [HB.out]
    go_wp2_with fail
    refine (pass_any p ao len cap a u (8 - a) _ (hs2.drewN q) hl (by omega) (by omega) u0 u1 (by omega) (by omega)).mono ?_
    rintro e w' ⟨rfl, h1, h2, h3⟩
    rw [show (a + (8 - a)) / 8 = 1 by omega, show (a + (8 - a)) % 8 = 0 by omega] at h1
    go_wp2_with fail
    go_end0
    refine ⟨rfl, ?_, ?_⟩
    · rw [HU.out, HC.out]; exact h1
    · exact grownBy_trans (grownBy_trans (World.grownBy_alloc w _ _) (grownBy_of_below (below_drewN' _ _ _) _)) h2
end Go.Proofs.Ytmfacacpoajpgab
