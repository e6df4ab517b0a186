import Derived.Test.YtmfacacpoajpgacWinB
namespace Go.Proofs.Ytmfacacpoajpgac
open Go.RowKit
attribute [local go_sem ↓] Go.wp_at_zero Go.wp_at_succ

theorem law_vw_big (ao : Option Addr) (n cap : Nat) (s : Int) (w : World) (hn : n ≤ 9223372036854775807) (hbig : 1048576 < n) :
    Calls Try.prog 6 #[.agg #[.int .i64 s, .slice ao n cap]] w fun e w' => e = .returned (.bool true) ∧ Below w.heap.size w w' := by
  go_enter Try.func6, Try.ntmps6
  go_wp2_with fail
  refine (szWindow_any ao n cap s 1048576 _ hn (by decide) (by decide)).mono ?_
  rintro e w1 ⟨rfl, hb1⟩
  rw [if_pos (by omega)]
  go_wp2_with fail
  go_ret
  exact ⟨rfl, ((Below.refl _ _).alloc (Nat.le_refl _) _).trans (hb1.mono (by simp))⟩

set_option maxRecDepth 100000 in
set_option maxHeartbeats 6400000 in
theorem law_vw (ao : Option Addr) (cap : Nat) (zs : List Int) (s : Int) (w : World) (hr : Row w ao zs) (hn : zs.length ≤ 1048576) :
    Calls Try.prog 6 #[.agg #[.int .i64 s, .slice ao zs.length cap]] w fun e w' => e = .returned (.bool true) ∧ Below w.heap.size w w' := by
  have A_0 := win_new w s (.slice ao zs.length cap) 50
  have L_0 : Below w.heap.size w (w.alloc (.cells #[.int .i64 s, .slice ao zs.length cap] 50)) := (Below.refl _ _).alloc (Nat.le_refl _) _
  have HR := hide1 hr
  clear hr
  go_enter Try.func6, Try.ntmps6
  go_wp2_with fail
  refine (szWindow_any ao zs.length cap s 1048576 _ (by omega) (by decide) (by decide)).mono ?_
  rintro e w1 ⟨rfl, hb1⟩
  rw [if_neg (by omega)]
  have A_1 := A_0.below hb1
  have L_1 := L_0.trans (hb1.mono (by simp))
  clear A_0 L_0 hb1
  have z1 := A_1.lt
  obtain ⟨g0, g1⟩ := A_1.two
  go_wp2_with fail
  refine (toWindow_any ao cap zs s w1 (HR.out.below L_1) (by omega)).mono ?_
  rintro e w2 ⟨gx, rfl, mx, hb2⟩
  clear g0 g1
  have A_2 := A_1.below hb2
  have L_2 := L_1.trans (hb2.mono (by omega))
  have z2 := A_2.lt
  clear A_1 L_1 hb2 mx
  go_wp2_with fail
  refine (svalidw_any (some ⟨gx, 0, none⟩) zs.length zs.length s w2).mono ?_
  rintro e w3 ⟨rfl, hb3⟩
  have A_3 := A_2.below hb3
  have L_3 := L_2.trans (hb3.mono (by omega))
  have z3 := A_3.lt
  clear A_2 L_2 hb3
  obtain ⟨g0, g1⟩ := A_3.two
  go_wp2_with fail
  refine (toWindow_any ao cap zs s w3 (HR.out.below L_3) (by omega)).mono ?_
  rintro e w4 ⟨g4, rfl, MX_0, hb4⟩
  clear g0 g1
  have A_4 := (A_3.below hb4).alloc (.cells #[.int .i64 s, .slice (some ⟨g4, 0, none⟩) zs.length zs.length] 41)
  have L_4 := L_3.trans (hb4.mono (by omega))
  have L_5 := L_4.alloc (by have := L_4.size; omega) (.cells #[.int .i64 s, .slice (some ⟨g4, 0, none⟩) zs.length zs.length] 41)
  have MX_1 := MX_0.below ((Below.refl _ _).alloc (Nat.le_refl _) (.cells #[.int .i64 s, .slice (some ⟨g4, 0, none⟩) zs.length zs.length] 41))
  have X_0 := win_new w4 s (.slice (some ⟨g4, 0, none⟩) zs.length zs.length) 41
  have z4 : w.heap.size < w4.heap.size := by have := hb4.size; omega
  clear A_3 L_3 hb4 MX_0 L_4
  obtain ⟨x0, x1⟩ := X_0.two
  go_wp2_with fail
  refine (ivalid_any (some ⟨g4, 0, none⟩) zs.length zs.length s _).mono ?_
  rintro e w6 ⟨rfl, hb6⟩
  clear x0 x1
  have A_6 := A_4.below hb6
  have L_6 := L_5.trans (hb6.mono (by simp; omega))
  have MX_6 := MX_1.below hb6
  have X_6 := X_0.below hb6
  have hne : (vwin zs.length s != vwin zs.length s) = false := by simp
  clear A_4 L_5 MX_1 X_0 hb6
  obtain ⟨g0, g1⟩ := A_6.two
  obtain ⟨x0, x1⟩ := X_6.two
  have zA6 := A_6.lt
  have zX6 := X_6.lt
  have HMX := hide1 MX_6
  have HL := hide1 L_6
  have HA := hide1 A_6
  have HX := hide1 X_6
  clear MX_6 L_6 A_6 X_6
  go_wp2_with fail
  go_region_held3 (fun w' => w'.cell? ⟨w.heap.size, 0, none⟩ = some (.int .i64 s) ∧ w'.cell? ⟨w.heap.size, 1, none⟩ = some (.slice ao zs.length cap) ∧ w'.cell? ⟨w4.heap.size, 0, none⟩ = some (.int .i64 s) ∧ w'.cell? ⟨w4.heap.size, 1, none⟩ = some (.slice (some ⟨g4, 0, none⟩) zs.length zs.length))
    (first | (refine ⟨?_, ?_, ?_, ?_⟩ <;> assumption) | (go_keep; done))
    (first | (go_at_call 29; refine (toWindow_any ao cap zs s _ (HR.out.below HL.out.drew) (by omega)).mono ?_; rintro e w7 ⟨g7, rfl, m7, hb7⟩; obtain ⟨_, _⟩ := (HA.out.below (((Below.refl _ _).drew).trans hb7)).two; obtain ⟨_, _⟩ := (HX.out.below (((Below.refl _ _).drew).trans hb7)).two)
           | (go_at_call 30; refine (eqWindow_same (some ⟨g4, 0, none⟩) (some ⟨g7, 0, none⟩) zs.length zs.length zs s _ (HMX.out.below (((Below.refl _ _).drew).trans hb7)).row m7.row (by omega)).mono ?_; rintro e w8 ⟨rfl, hb8⟩; obtain ⟨_, _⟩ := ((HA.out.below (((Below.refl _ _).drew).trans hb7)).below hb8).two; obtain ⟨_, _⟩ := ((HX.out.below (((Below.refl _ _).drew).trans hb7)).below hb8).two))
  have hb78 : Below w6.heap.size w6 w8 := ((Below.refl _ _).drew).trans (hb7.trans (hb8.mono (by have := hb7.size; simpa using this)))
  go_wp2_with fail
  go_ret
  exact ⟨rfl, HL.out.trans (hb78.mono (by omega))⟩
end Go.Proofs.Ytmfacacpoajpgac
