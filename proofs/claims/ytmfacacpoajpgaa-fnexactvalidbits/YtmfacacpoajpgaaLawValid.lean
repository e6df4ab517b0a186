import Derived.Test.YtmfacacpoajpgaaValidS
import Derived.Test.YtmfacacpoajpgaaValidI
import Derived.Test.YtmfacacpoajpgaaLawB
namespace Go.Proofs.Ytmfacacpoajpgaa
open Go.RowKit
attribute [local go_sem ↓] Go.wp_at_zero Go.wp_at_succ

theorem law_valid_big (ao : Option Addr) (n cap : Nat) (a u : Int) (w : World) (hn : n ≤ 9223372036854775807) (hbig : 1048576 < n) :
    Calls Try.prog 8 #[.agg #[.slice ao n cap, .int .i64 a, .int .i64 u]] w fun e w' => e = .returned (.bool true) ∧ Below w.heap.size w w' := by
  go_enter Try.func8, Try.ntmps8
  go_wp2_with fail
  refine (szBits_any ao n cap a u 1048576 _ hn (by decide) (by decide)).mono ?_
  rintro e w1 ⟨rfl, hb1⟩
  rw [if_pos (by omega)]
  go_wp2_with fail
  go_ret
  exact ⟨rfl, ((Below.refl _ _).alloc (Nat.le_refl _) _).trans (hb1.mono (by simp))⟩

set_option maxRecDepth 100000 in
set_option maxHeartbeats 6400000 in
theorem law_valid (ao : Option Addr) (cap : Nat) (zs : List Int) (a u : Int) (w : World) (hr : Row w ao zs) (hn : zs.length ≤ 1048576) :
    Calls Try.prog 8 #[.agg #[.slice ao zs.length cap, .int .i64 a, .int .i64 u]] w fun e w' => e = .returned (.bool true) ∧ Below w.heap.size w w' := by
  have A_0 := src_new w (.slice ao zs.length cap) a u 46
  have L_0 : Below w.heap.size w (w.alloc (.cells #[.slice ao zs.length cap, .int .i64 a, .int .i64 u] 46)) := (Below.refl _ _).alloc (Nat.le_refl _) _
  have HR := hide1 hr
  clear hr
  go_enter Try.func8, Try.ntmps8
  go_wp2_with fail
  refine (szBits_any ao zs.length cap a u 1048576 _ (by omega) (by decide) (by decide)).mono ?_
  rintro e w1 ⟨rfl, hb1⟩
  rw [if_neg (by omega)]
  have z0 : w.heap.size < (w.alloc (.cells #[.slice ao zs.length cap, .int .i64 a, .int .i64 u] 46)).heap.size := by simp
  have A_1 := A_0.grown (grownBy_of_below hb1 none) (by simp)
  have L_2 := L_0.trans (hb1.mono (by first | omega | (simp; omega)))
  clear A_0 L_0
  have z1 : w.heap.size < w1.heap.size := World.block_lt_of_cell? w1 _ A_1.1
  clear hb1 z0
  obtain ⟨g0, g1, g2⟩ := A_1.three
  go_wp2_with fail
  refine (toBits_any ao cap zs a u w1 (HR.out.below L_2) (by omega)).mono ?_
  rintro e w2 ⟨gx, rfl, mx, hb2⟩
  clear g0 g1 g2
  have A_3 := A_1.grown (grownBy_of_below hb2 none) (by simp)
  have L_4 := L_2.trans (hb2.mono (by first | omega | (simp; omega)))
  clear A_1 L_2
  have z2 : w1.heap.size ≤ w2.heap.size := hb2.size
  clear hb2
  go_wp2_with fail
  refine (svalid_any (some ⟨gx, 0, none⟩) zs.length zs.length a u w2).mono ?_
  rintro e w3 ⟨rfl, hb3⟩
  have A_5 := A_3.grown (grownBy_of_below hb3 none) (by simp)
  have L_6 := L_4.trans (hb3.mono (by first | omega | (simp; omega)))
  clear A_3 L_4
  have z3 : w2.heap.size ≤ w3.heap.size := hb3.size
  clear hb3 mx
  obtain ⟨g0, g1, g2⟩ := A_5.three
  go_wp2_with fail
  refine (toBits_any ao cap zs a u _ (HR.out.below L_6) (by omega)).mono ?_
  rintro e w4 ⟨g4, rfl, MX_0, hb4⟩
  clear g0 g1 g2
  have A_7 := A_5.grown (grownBy_of_below hb4 none) (by simp)
  have L_8 := L_6.trans (hb4.mono (by first | omega | (simp; omega)))
  clear A_5 L_6
  have z4 : w3.heap.size ≤ w4.heap.size := hb4.size
  clear hb4
  have X0_0 := src_new w4 (.slice (some ⟨g4, 0, none⟩) zs.length zs.length) a u 35
  have A_9 := A_7.grown (World.grownBy_alloc _ (.cells #[.slice (some ⟨g4, 0, none⟩) zs.length zs.length, .int .i64 a, .int .i64 u] 35) none) (by simp)
  have L_10 := L_8.alloc (by first | omega | (simp; omega)) (.cells #[.slice (some ⟨g4, 0, none⟩) zs.length zs.length, .int .i64 a, .int .i64 u] 35)
  have MX_11 := MX_0.below ((Below.refl _ _).alloc (Nat.le_refl _) (.cells #[.slice (some ⟨g4, 0, none⟩) zs.length zs.length, .int .i64 a, .int .i64 u] 35))
  clear A_7 L_8 MX_0
  obtain ⟨x0, x1, x2⟩ := X0_0.three
  go_wp2_with fail
  refine (valid_any (some ⟨g4, 0, none⟩) zs.length zs.length a u _).mono ?_
  rintro e w6 ⟨rfl, hb6⟩
  clear x0 x1 x2
  have A_12 := A_9.grown (grownBy_of_below hb6 none) (by simp)
  have L_13 := L_10.trans (hb6.mono (by first | omega | (simp; omega)))
  have MX_14 := MX_11.below hb6
  have X0_15 := X0_0.grown (grownBy_of_below hb6 none) (by simp)
  clear A_9 L_10 MX_11 X0_0
  have z6 : w4.heap.size < w6.heap.size := by have := hb6.size; simp at this; omega
  clear hb6
  have hne : (vld zs.length a u != vld zs.length a u) = false := by simp
  obtain ⟨g0, g1, g2⟩ := A_12.three
  obtain ⟨x0, x1, x2⟩ := X0_15.three
  have zA6 : w.heap.size < w6.heap.size := by omega
  have HMX := hide1 MX_14
  have HL := hide1 L_13
  have HA := hide1 A_12
  have HX := hide1 X0_15
  go_wp2_with fail
  go_region_held3 (fun w' => w'.cell? ⟨w.heap.size, 0, none⟩ = some (.slice ao zs.length cap) ∧ w'.cell? ⟨w.heap.size, 1, none⟩ = some (.int .i64 a) ∧ w'.cell? ⟨w.heap.size, 2, none⟩ = some (.int .i64 u) ∧ w'.cell? ⟨w4.heap.size, 0, none⟩ = some (.slice (some ⟨g4, 0, none⟩) zs.length zs.length) ∧ w'.cell? ⟨w4.heap.size, 1, none⟩ = some (.int .i64 a) ∧ w'.cell? ⟨w4.heap.size, 2, none⟩ = some (.int .i64 u))
    (first | (refine ⟨?_, ?_, ?_, ?_, ?_, ?_⟩ <;> assumption) | (go_keep; done))
    (first | (go_at_call 27; refine (toBits_any ao cap zs a u _ (HR.out.below HL.out.drew) (by omega)).mono ?_; rintro e w7 ⟨g7, rfl, m7, hb7⟩; obtain ⟨_, _, _⟩ := (HA.out.grown (grownBy_of_below (((Below.refl _ _).drew).trans hb7) none) (by simp)).three; obtain ⟨_, _, _⟩ := (HX.out.grown (grownBy_of_below (((Below.refl _ _).drew).trans hb7) none) (by simp)).three) | (go_at_call 28; refine (eqBits_same (some ⟨g4, 0, none⟩) (some ⟨g7, 0, none⟩) _ _ zs a u _ (HMX.out.row.below (((Below.refl _ _).drew).trans hb7)) m7.row (by omega)).mono ?_; rintro e w8 ⟨rfl, hb8⟩; obtain ⟨_, _, _⟩ := (HA.out.grown (grownBy_of_below (((Below.refl _ _).drew).trans (hb7.trans (hb8.mono (by have := hb7.size; simpa using this)))) none) (by simp)).three; obtain ⟨_, _, _⟩ := (HX.out.grown (grownBy_of_below (((Below.refl _ _).drew).trans (hb7.trans (hb8.mono (by have := hb7.size; simpa using this)))) none) (by simp)).three))
  clear g0 g1 g2 x0 x1 x2
  have hb78 : Below w6.heap.size w6 w8 := ((Below.refl _ _).drew).trans (hb7.trans (hb8.mono (by have := hb7.size; simpa using this)))
  have A_16 := A_12.grown (grownBy_of_below hb78 none) (by simp)
  have L_17 := L_13.trans (hb78.mono (by first | omega | (simp; omega)))
  have MX_18 := MX_14.below hb78
  have X0_19 := X0_15.grown (grownBy_of_below hb78 none) (by simp)
  clear A_12 L_13 MX_14 X0_15
  go_wp2_with fail
  go_ret
  exact ⟨rfl, L_17⟩
end Go.Proofs.Ytmfacacpoajpgaa
