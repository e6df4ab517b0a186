import Derived.Test.YtmfacacpoajpgacHTT
namespace Go.Proofs.Ytmfacacpoajpgac
open Go.RowKit
attribute [local go_sem ↓] Go.wp_at_zero Go.wp_at_succ
set_option linter.unusedVariables false

theorem eqNext_same (a b c : Nat) (w : World) : Calls Try.prog 19 #[.agg #[.int .i64 a, .int .i64 b, .int .i64 c], .agg #[.int .i64 a, .int .i64 b, .int .i64 c]] w fun e w' => e = .returned (.bool true) ∧ Below w.heap.size w w' := by
  have HB : Hid (∀ A B t, Below w.heap.size w ((w.alloc (.cells A t)).alloc (.cells B t))) := fun A B t => ((Below.refl _ _).alloc (Nat.le_refl _) _).alloc (by simp) _
  go_enter Try.func19, Try.ntmps19
  go_wp2_with fail
  go_ret
  exact ⟨rfl, HB.out _ _ _⟩

theorem law_next_big (ao : Option Addr) (n cap : Nat) (b m : Int) (w : World) (hn : n ≤ 9223372036854775807) (hbig : 1048576 < n) :
    Calls Try.prog 4 #[.slice ao n cap, .int .u64 b, .int .i64 m] w fun e w' => e = .returned (.bool true) ∧ Below w.heap.size w w' := by
  go_enter Try.func4, Try.ntmps4
  go_wp2_with fail
  go_ret
  exact ⟨rfl, Below.refl _ _⟩

set_option maxRecDepth 100000 in
set_option maxHeartbeats 800000 in
theorem law_next (ao : Option Addr) (cap : Nat) (zs : List Int) (b : Nat) (n : Int) (w : World) (hr : Row64 w ao zs) (hl : zs.length ≤ 1048576) (hb : b < 2 ^ 64) (hn0 : -9223372036854775808 ≤ n) (hn1 : n ≤ 9223372036854775807) :
    Calls Try.prog 4 #[.slice ao zs.length cap, .int .u64 b, .int .i64 n] w fun e w' => e = .returned (.bool true) ∧ Below w.heap.size w w' := by
  have HR := hideH hr
  have HS := hideH (fun W co cc (h : Row64 W co zs) => snext_any co cc zs b n W h hl hb hn0 hn1)
  have HI := hideH (fun W co cc (h : Row64 W co zs) => inext_any co cc zs b n W h hl hb hn0 hn1)
  clear hr hb
  go_enter Try.func4, Try.ntmps4
  go_wp2_with fail
  refine (toInt64S_any ao cap zs w HR.out (by omega)).mono ?_
  rintro e w1 ⟨rfl, ho1, hb1⟩
  have R1 := hideH (Row64.owned ho1)
  have L1 := hideH hb1
  clear ho1 hb1
  go_wp2_with fail
  refine (HS.out w1 _ _ R1.out).mono ?_
  rintro e w2 ⟨⟨k, s, l, rfl, ha⟩, hb2⟩
  have HA := hideH ha
  have L2 := hideH (L1.out.trans (hb2.mono L1.out.size))
  have hb3 : Below w2.heap.size w2 (w2.alloc (.cells #[.int .i64 k, .int .i64 s, .int .i64 l] 33)) := (Below.refl _ _).alloc (Nat.le_refl _) _
  have H3 := hideH (res3_new w2 k s l 33)
  have L3 := hideH (L2.out.trans (hb3.mono L2.out.size))
  obtain ⟨w3, hw3⟩ : ∃ w3, w2.alloc (.cells #[.int .i64 k, .int .i64 s, .int .i64 l] 33) = w3 := ⟨_, rfl⟩
  have HT := hideH (toInt64S_any ao cap zs _ (HR.out.below L3.out) (by omega))
  rw [hw3] at H3 L3 HT
  clear R1 L1 hb2 ha hb3 L2
  go_wp2_with fail
  refine HT.out.mono ?_
  rintro e w4 ⟨rfl, ho4, hb4⟩
  have R4 := hideH (Row64.owned ho4)
  have H4 := hideH (H3.out.below hb4)
  have L4 := hideH (L3.out.trans (hb4.mono L3.out.size))
  clear ho4 hb4 H3 L3 HT hw3
  go_wp2_with fail
  refine (HI.out w4 _ _ R4.out).mono ?_
  rintro e w5 ⟨⟨k', s', l', rfl, ha'⟩, hb5⟩
  obtain ⟨rfl, rfl, rfl⟩ := HA.out.one ha'
  have H5 := hideH (H4.out.below hb5)
  have L5 := hideH (L4.out.trans (hb5.mono L4.out.size))
  have R5 := hideH (R4.out.below hb5)
  have hb6 : Below w5.heap.size w5 (w5.alloc (.cells #[.int .i64 k, .int .i64 s, .int .i64 l] 33)) := (Below.refl _ _).alloc (Nat.le_refl _) _
  have H6 := H5.out.below hb6
  have G6 := res3_new w5 k s l 33
  have R6 := hideH (R5.out.below hb6)
  have L6 := hideH (L5.out.trans (hb6.mono L5.out.size))
  have hlt5 := H5.out.lt
  have HE := hideH (eqNext_same k s l (w5.alloc (.cells #[.int .i64 k, .int .i64 s, .int .i64 l] 33)))
  obtain ⟨r0, r1, r2, _⟩ := H6
  obtain ⟨g0, g1, g2, _⟩ := G6
  clear ha' hb5 hb6 H4 L4 R4 R5 L5 H5 HA
  go_wp2_with fail
  refine HE.out.mono ?_
  rintro e w7 ⟨rfl, hb7⟩
  have R7 := hideH (R6.out.below hb7)
  have L7 := hideH (L6.out.trans (hb7.mono L6.out.size))
  clear hb7 L6 R6 HE r0 r1 r2 g0 g1 g2
  go_wp2_with fail
  refine (toInt64S_any ao cap zs w7 (HR.out.below L7.out) (by omega)).mono ?_
  rintro e w8 ⟨rfl, ho8, hb8⟩
  have R8 := hideH (Row64.owned ho8)
  have X8 := hideH (R7.out.below hb8)
  have L8 := hideH (L7.out.trans (hb8.mono L7.out.size))
  clear ho8 hb8 L7 R7
  go_wp2_with fail
  refine (eqInt64S_any _ _ _ _ zs zs w8 X8.out R8.out (by omega)).mono ?_
  rintro e w9 ⟨rfl, q9, e9⟩
  have hb9 : Below w8.heap.size w8 w9 := by rw [e9]; exact below_drewN' _ _ _
  rw [decide_eq_true rfl]
  have L9 := hideH (L8.out.trans (hb9.mono L8.out.size))
  clear hb9 e9 L8 X8 R8
  go_wp2_with fail
  go_ret
  exact ⟨rfl, L9.out⟩
end Go.Proofs.Ytmfacacpoajpgac
