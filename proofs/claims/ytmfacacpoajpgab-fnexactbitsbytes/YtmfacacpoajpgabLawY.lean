import Derived.Test.YtmfacacpoajpgabLawB
import Derived.Test.YtmfacacpoajpgabFive
namespace Go.Proofs.Ytmfacacpoajpgab
open Go.RowKit
attribute [local go_sem ↓] Go.wp_at_zero Go.wp_at_succ

set_option maxHeartbeats 1600000 in
/-- laws.eqByteRes, at two equal answers. -/
theorem eqByteRes_same (ok : Bool) (do1 do2 ao bo : Option Addr) (d1 d2 ca cb : Nat) (ds zs : List Int) (a u : Int) (w : World) (hd1 : Row w do1 ds) (hd2 : Row w do2 ds) (ha : Row w ao zs) (hb : Row w bo zs) (hn : zs.length ≤ 140737488355328) (hnd : ds.length ≤ 140737488355328) :
    Calls Try.prog 28 #[.agg #[.bool ok, .slice do1 ds.length d1, .slice ao zs.length ca, .int .i64 a, .int .i64 u], .agg #[.bool ok, .slice do2 ds.length d2, .slice bo zs.length cb, .int .i64 a, .int .i64 u]] w fun e w' => e = .returned (.bool true) ∧ Below w.heap.size w w' := by
  have hbl : Below w.heap.size w ((w.alloc (.cells #[.bool ok, .slice do1 ds.length d1, .slice ao zs.length ca, .int .i64 a, .int .i64 u] 45)).alloc (.cells #[.bool ok, .slice do2 ds.length d2, .slice bo zs.length cb, .int .i64 a, .int .i64 u] 45)) := ((Below.refl _ _).alloc (Nat.le_refl _) _).alloc (by simp) _
  have h1 : (ok != ok) = false := by simp
  go_enter Try.func28, Try.ntmps28
  go_wp2_with fail
  refine (eqByteS_any do1 do2 d1 d2 ds ds _ (hd1.below hbl) (hd2.below hbl) hnd).mono ?_
  rintro e w1 ⟨rfl, q, rfl⟩
  rw [decide_eq_true rfl]
  go_wp2_with fail
  refine (eqBits_same ao bo ca cb zs a u _ ((ha.below hbl).drewN q) ((hb.below hbl).drewN q) hn).mono ?_
  rintro e w2 ⟨rfl, hb2⟩
  go_wp2_with fail
  go_ret
  exact ⟨rfl, (hbl.trans (below_drewN' _ _ q)).trans (hb2.mono (by show w.heap.size ≤ ((w.alloc _).alloc _).heap.size; simp; omega))⟩

set_option maxHeartbeats 1600000 in
/-- laws.markByteRes. -/
theorem markByteRes_any (B : Nat) (ok : Bool) (dd ao : Option Addr) (dc cap : Nat) (ds zs : List Int) (a u : Int) (k : Nat) (w : World) (hd : Mine B w dd dc ds) (hm : Mine B w ao cap zs) (hne : ∀ k, blk dd = some k → blk ao ≠ some k) (hn : zs.length ≤ 140737488355328) (hnd : ds.length ≤ 1048576) (hk : k ≤ 1048576) :
    Calls Try.prog 29 #[.agg #[.bool ok, .slice dd ds.length dc, .slice ao zs.length cap, .int .i64 a, .int .i64 u], .int .i64 k] w fun e w' =>
      e = .returned (.int .i64 ((k + ds.length + zs.length : Nat) : Int)) ∧ Row w' dd (marks k ds.length) ∧ Row w' ao (marks (k + ds.length) zs.length) ∧ ∃ wm, w.grownBy wm (blk dd) ∧ wm.grownBy w' (blk ao) := by
  have hal : Below w.heap.size w (w.alloc (.cells #[.bool ok, .slice dd ds.length dc, .slice ao zs.length cap, .int .i64 a, .int .i64 u] 45)) := (Below.refl _ _).alloc (Nat.le_refl _) _
  have hm1 := hm.below hal
  have hd1 := hd.below hal
  have hF := five_new w (.bool ok) (.slice dd ds.length dc) (.slice ao zs.length cap) (.int .i64 a) (.int .i64 u) 45
  have hlt : ∀ j, blk dd = some j → j ≠ w.heap.size := by
    intro j e
    cases dd with
    | none => cases e
    | some ad => have := (hd.lies ad rfl).2.1; simp [blk] at e; omega
  go_enter Try.func29, Try.ntmps29
  go_wp2_with fail
  refine (markByteS_any dd dc ds k _ hd1.row hd1.free (by omega) (by omega)).mono ?_
  rintro e w1 ⟨rfl, h1, h2, h3, h4⟩
  have hm2 := hm1.grown h3 (fun j e => hne j e)
  have hF1 := hF.grown h3 (fun e => hlt _ e.symm rfl)
  obtain ⟨y0, y1, y2, y3, y4⟩ := hF1.all
  clear hF hd1 hm1 h2 h4 hF1
  go_wp2_with fail
  refine (markBits_any B ao cap zs a u (k + ds.length) _ hm2 hn (by omega)).mono ?_
  rintro e w2 ⟨rfl, g1, g2⟩
  have h1' : Row w2 dd (marks k ds.length) := h1.grown g2 (fun ad e he => hne ad.block (by rw [e]; rfl) he.symm)
  go_wp2_with fail
  go_ret
  exact ⟨by go_num, h1', g1.row, w1, grownBy_trans (World.grownBy_alloc w _ _) h3, g2⟩

set_option maxHeartbeats 1600000 in
/-- laws.heldByteRes, at what markByteRes has left. -/
theorem heldByteRes_any (ok : Bool) (dd ao : Option Addr) (dc cap m n : Nat) (a u : Int) (k : Nat) (w : World) (hd : Row w dd (marks k m)) (hr : Row w ao (marks (k + m) n)) (hn : n ≤ 140737488355328) (hm : m ≤ 1048576) (hk : k ≤ 1048576) :
    Calls Try.prog 30 #[.agg #[.bool ok, .slice dd m dc, .slice ao n cap, .int .i64 a, .int .i64 u], .int .i64 k] w fun e w' => e = .returned (.int .i64 ((k + m + n : Nat) : Int)) ∧ Below w.heap.size w w' := by
  have hbl : Below w.heap.size w (w.alloc (.cells #[.bool ok, .slice dd m dc, .slice ao n cap, .int .i64 a, .int .i64 u] 45)) := (Below.refl _ _).alloc (Nat.le_refl _) _
  go_enter Try.func30, Try.ntmps30
  go_wp2_with fail
  refine (heldByteS_any dd dc m k _ (hd.below hbl) (by omega) (by omega)).mono ?_
  rintro e w1 ⟨rfl, rfl⟩
  go_wp2_with fail
  refine (heldBits_any ao cap n a u (k + m) _ (hr.below hbl) hn (by omega)).mono ?_
  rintro e w1 ⟨rfl, hb1⟩
  go_wp2_with fail
  go_ret
  exact ⟨by go_num, hbl.trans (hb1.mono (by simp))⟩
end Go.Proofs.Ytmfacacpoajpgab
