import Derived.Test.YtmfacacpoajpgabAlignS
import Derived.Test.YtmfacacpoajpgabLawB
namespace Go.Proofs.Ytmfacacpoajpgab
open Go.RowKit
attribute [local go_sem ↓] Go.wp_at_zero Go.wp_at_succ

theorem alZ_len (zs : List Int) (a u : Int) : (alZ zs a u).length ≤ zs.length := by
  unfold alZ
  split
  · rw [List.length_drop]; omega
  · simp

theorem law_align_big (ao : Option Addr) (n cap : Nat) (a u : Int) (w : World) (hn : n ≤ 9223372036854775807) (hbig : 1048576 < n) :
    Calls Try.prog 5 #[.agg #[.slice ao n cap, .int .i64 a, .int .i64 u]] w fun e w' => e = .returned (.bool true) ∧ Below w.heap.size w w' := by
  go_enter Try.func5, Try.ntmps5
  go_wp2_with fail
  refine (szBits_any ao n cap a u 1048576 _ hn (by decide) (by decide)).mono ?_
  rintro e w1 ⟨rfl, hb1⟩
  rw [if_pos (by omega)]
  go_wp2_with fail
  go_ret
  exact ⟨rfl, ((Below.refl _ _).alloc (Nat.le_refl _) _).trans (hb1.mono (by simp))⟩

set_option maxRecDepth 100000 in
set_option maxHeartbeats 6400000 in
theorem law_align (ao : Option Addr) (cap : Nat) (zs : List Int) (a u : Int) (w : World) (hr : Row w ao zs) (hn : zs.length ≤ 1048576) :
    Calls Try.prog 5 #[.agg #[.slice ao zs.length cap, .int .i64 a, .int .i64 u]] w fun e w' => e = .returned (.bool true) ∧ Below w.heap.size w w' := by
  have hal := alZ_len zs a u
  have A_0 := src_new w (.slice ao zs.length cap) a u 24
  have L_0 : Below w.heap.size w (w.alloc (.cells #[.slice ao zs.length cap, .int .i64 a, .int .i64 u] 24)) := (Below.refl _ _).alloc (Nat.le_refl _) _
  have z0 : w.heap.size < (w.alloc (.cells #[.slice ao zs.length cap, .int .i64 a, .int .i64 u] 24)).heap.size := by simp
  have HR := hide1 hr
  clear hr
  go_enter Try.func5, Try.ntmps5
  go_wp2_with fail
  refine (szBits_any ao zs.length cap a u 1048576 _ (by omega) (by decide) (by decide)).mono ?_
  rintro e w1 ⟨rfl, hb1⟩
  rw [if_neg (by omega)]
  have A_1 := A_0.grown (grownBy_of_below hb1 none) (by simp)
  have L_2 := L_0.trans (hb1.mono (by first | omega | (simp; omega)))
  have z1 : w.heap.size < w1.heap.size := World.block_lt_of_cell? w1 _ A_1.1
  clear A_0 L_0
  clear hb1 z0
  obtain ⟨g0, g1, g2⟩ := A_1.three
  go_wp2_with fail
  refine (toBits_any ao cap zs a u w1 (HR.out.below L_2) (by omega)).mono ?_
  rintro e w2 ⟨gx, rfl, mx, hb2⟩
  clear g0 g1 g2
  have A_4 := A_1.grown (grownBy_of_below hb2 none) (by simp)
  have L_5 := L_2.trans (hb2.mono (by first | omega | (simp; omega)))
  clear A_1 L_2
  have z2 : w1.heap.size ≤ w2.heap.size := hb2.size
  clear hb2
  go_wp2_with fail
  refine (sbitsAlign_any (some ⟨gx, 0, none⟩) zs.length zs a u w2 mx.row (Nat.le_refl _) (fun e => by cases e)).mono ?_
  rintro e w3 ⟨⟨ao3, cap3, rfl, M0_0⟩, hb3⟩
  have M0z : ∀ ad, ao3 = some ad → ad.block < w3.heap.size := fun ad e => (M0_0.lies ad e).2.1
  have A_6 := A_4.grown (grownBy_of_below hb3 none) (by simp)
  have L_7 := L_5.trans (hb3.mono (by first | omega | (simp; omega)))
  clear A_4 L_5
  have z3 : w2.heap.size ≤ w3.heap.size := hb3.size
  clear hb3 mx
  generalize hzd : alZ zs a u = zd at *
  generalize hud : alU zs a u = ud at *
  have HZD := hide1 hzd
  have HUD := hide1 hud
  clear hzd hud
  have W0_0 := src_new w3 (.slice ao3 zd.length cap3) 0 ud 26
  have A_8 := src_alloc2 A_6 (.cells #[.slice ao3 zd.length cap3, .int .i64 0, .int .i64 ud] 26)
  have L_9 := L_7.alloc (by first | omega | (simp; omega)) (.cells #[.slice ao3 zd.length cap3, .int .i64 0, .int .i64 ud] 26)
  have M0_10 := M0_0.below ((Below.refl _ _).alloc (Nat.le_refl _) (.cells #[.slice ao3 zd.length cap3, .int .i64 0, .int .i64 ud] 26))
  clear A_6 L_7
  obtain ⟨g0, g1, g2⟩ := A_8.three
  go_wp2_with fail
  refine (toBits_any ao cap zs a u _ (HR.out.below L_9) (by omega)).mono ?_
  rintro e w4 ⟨g4, rfl, MX_0, hb4⟩
  clear g0 g1 g2
  have A_12 := A_8.grown (grownBy_of_below hb4 none) (by simp)
  have L_13 := L_9.trans (hb4.mono (by first | omega | (simp; omega)))
  have M0_14 := M0_10.below hb4
  have W0_15 := W0_0.grown (grownBy_of_below hb4 none) (by simp)
  clear A_8 L_9 M0_10 W0_0
  have z4 : w3.heap.size < w4.heap.size := by have := hb4.size; simp at this; omega
  have MXl : w3.heap.size < g4 ∧ g4 < w4.heap.size := by have := MX_0.lies _ rfl; simp at this; omega
  clear hb4
  have X0_0 := src_new w4 (.slice (some ⟨g4, 0, none⟩) zs.length zs.length) a u 26
  have A_16 := src_alloc2 A_12 (.cells #[.slice (some ⟨g4, 0, none⟩) zs.length zs.length, .int .i64 a, .int .i64 u] 26)
  have L_17 := L_13.alloc (by first | omega | (simp; omega)) (.cells #[.slice (some ⟨g4, 0, none⟩) zs.length zs.length, .int .i64 a, .int .i64 u] 26)
  have M0_18 := M0_14.below ((Below.refl _ _).alloc (Nat.le_refl _) (.cells #[.slice (some ⟨g4, 0, none⟩) zs.length zs.length, .int .i64 a, .int .i64 u] 26))
  have W0_19 := src_alloc2 W0_15 (.cells #[.slice (some ⟨g4, 0, none⟩) zs.length zs.length, .int .i64 a, .int .i64 u] 26)
  have MX_20 := MX_0.below ((Below.refl _ _).alloc (Nat.le_refl _) (.cells #[.slice (some ⟨g4, 0, none⟩) zs.length zs.length, .int .i64 a, .int .i64 u] 26))
  clear A_12 L_13 M0_14 W0_15
  obtain ⟨x0, x1, x2⟩ := X0_0.three
  go_wp2_with fail
  refine (bitsAlign_any (some ⟨g4, 0, none⟩) zs.length zs a u _ MX_20.row (fun e => by cases e) (by omega)).mono ?_
  rintro e w5 ⟨⟨ao5, cap5, rfl, MG_0⟩, hb5⟩
  clear x0 x1 x2
  rw [HZD.out] at MG_0
  rw [HZD.out, HUD.out]
  have A_22 := A_16.grown (grownBy_of_below hb5 none) (by simp)
  have L_23 := L_17.trans (hb5.mono (by first | omega | (simp; omega)))
  have M0_24 := M0_18.below hb5
  have W0_25 := W0_19.grown (grownBy_of_below hb5 none) (by simp)
  have MX_26 := MX_20.below hb5
  have X0_27 := X0_0.grown (grownBy_of_below hb5 none) (by simp)
  clear A_16 L_17 M0_18 MX_20 W0_19 X0_0
  have z5 : w4.heap.size < w5.heap.size := by have := hb5.size; simp at this; omega
  have MGf : blk ao5 ≠ some g4 := MG_0.far (by simp; omega)
  have M0f : blk ao3 ≠ some g4 := by intro e; cases ao3 with | none => cases e | some ad => (have := M0z ad rfl; simp [blk] at e; omega)
  have MGz : ∀ ad, ao5 = some ad → w4.heap.size < ad.block ∧ ad.block < w5.heap.size := fun ad e => by have := MG_0.lies ad e; simp at this; omega
  have M05 : ∀ k, blk ao5 = some k → blk ao3 ≠ some k := by intro k e e'; cases ao3 with | none => cases e' | some ad => cases ao5 with | none => cases e | some ad2 => (have := M0z ad rfl; have := MGz ad2 rfl; simp [blk] at e e'; omega)
  have MGn : ∀ k, blk ao5 = some k → w4.heap.size < k ∧ k < w5.heap.size := by intro k e; cases ao5 with | none => cases e | some ad => (have := MGz ad rfl; simp [blk] at e; omega)
  clear hb5
  have G0_0 := src_new w5 (.slice ao5 zd.length cap5) 0 ud 26
  have A_28 := src_alloc2 A_22 (.cells #[.slice ao5 zd.length cap5, .int .i64 0, .int .i64 ud] 26)
  have L_29 := L_23.alloc (by first | omega | (simp; omega)) (.cells #[.slice ao5 zd.length cap5, .int .i64 0, .int .i64 ud] 26)
  have M0_30 := M0_24.below ((Below.refl _ _).alloc (Nat.le_refl _) (.cells #[.slice ao5 zd.length cap5, .int .i64 0, .int .i64 ud] 26))
  have W0_31 := src_alloc2 W0_25 (.cells #[.slice ao5 zd.length cap5, .int .i64 0, .int .i64 ud] 26)
  have MX_32 := MX_26.below ((Below.refl _ _).alloc (Nat.le_refl _) (.cells #[.slice ao5 zd.length cap5, .int .i64 0, .int .i64 ud] 26))
  have X0_33 := src_alloc2 X0_27 (.cells #[.slice ao5 zd.length cap5, .int .i64 0, .int .i64 ud] 26)
  have MG_34 := MG_0.below ((Below.refl _ _).alloc (Nat.le_refl _) (.cells #[.slice ao5 zd.length cap5, .int .i64 0, .int .i64 ud] 26))
  clear A_22 L_23 M0_24 MX_26 W0_25 X0_27
  obtain ⟨y0, y1, y2⟩ := G0_0.three
  obtain ⟨v0, v1, v2⟩ := W0_31.three
  go_wp2_with fail
  refine (eqBits_same ao5 ao3 cap5 cap3 zd 0 ud _ MG_34.row M0_30.row (by omega)).mono ?_
  rintro e w6 ⟨rfl, hb6⟩
  clear y0 y1 y2 v0 v1 v2
  have A_37 := A_28.grown (grownBy_of_below hb6 none) (by simp)
  have L_38 := L_29.trans (hb6.mono (by first | omega | (simp; omega)))
  have M0_39 := M0_30.below hb6
  have W0_40 := W0_31.grown (grownBy_of_below hb6 none) (by simp)
  have MX_41 := MX_32.below hb6
  have X0_42 := X0_33.grown (grownBy_of_below hb6 none) (by simp)
  have MG_43 := MG_34.below hb6
  have G0_44 := G0_0.grown (grownBy_of_below hb6 none) (by simp)
  clear A_28 G0_0 L_29 M0_30 MG_34 MX_32 W0_31 X0_33
  have z6 : w5.heap.size < w6.heap.size := by have := hb6.size; simp at this; omega
  clear hb6
  obtain ⟨g0, g1, g2⟩ := A_37.three
  obtain ⟨x0, x1, x2⟩ := X0_42.three
  have zA6 : w.heap.size < w6.heap.size := by omega
  have zX6 : w4.heap.size < w6.heap.size := by omega
  have HMX := hide1 MX_41
  have HL := hide1 L_38
  have HA := hide1 A_37
  have HX := hide1 X0_42
  go_wp2_with fail
  go_region_held3 (fun w' => w'.cell? ⟨w.heap.size, 0, none⟩ = some (.slice ao zs.length cap) ∧ w'.cell? ⟨w.heap.size, 1, none⟩ = some (.int .i64 a) ∧ w'.cell? ⟨w.heap.size, 2, none⟩ = some (.int .i64 u) ∧ w'.cell? ⟨w4.heap.size, 0, none⟩ = some (.slice (some ⟨g4, 0, none⟩) zs.length zs.length) ∧ w'.cell? ⟨w4.heap.size, 1, none⟩ = some (.int .i64 a) ∧ w'.cell? ⟨w4.heap.size, 2, none⟩ = some (.int .i64 u))
    (first | (refine ⟨?_, ?_, ?_, ?_, ?_, ?_⟩ <;> assumption) | (go_keep; done))
    (first | (go_at_call 11; refine (toBits_any ao cap zs a u _ (HR.out.below HL.out.drew) (by omega)).mono ?_; rintro e w7 ⟨g7, rfl, m7, hb7⟩; obtain ⟨_, _, _⟩ := (HA.out.grown (grownBy_of_below (((Below.refl _ _).drew).trans hb7) none) (by simp)).three; obtain ⟨_, _, _⟩ := (HX.out.grown (grownBy_of_below (((Below.refl _ _).drew).trans hb7) none) (by simp)).three) | (go_at_call 14; refine (eqBits_same (some ⟨g4, 0, none⟩) (some ⟨g7, 0, none⟩) _ _ zs a u _ (HMX.out.row.below (((Below.refl _ _).drew).trans hb7)) m7.row (by omega)).mono ?_; rintro e w8 ⟨rfl, hb8⟩; obtain ⟨_, _, _⟩ := (HA.out.grown (grownBy_of_below (((Below.refl _ _).drew).trans (hb7.trans (hb8.mono (by have := hb7.size; simpa using this)))) none) (by simp)).three; obtain ⟨_, _, _⟩ := (HX.out.grown (grownBy_of_below (((Below.refl _ _).drew).trans (hb7.trans (hb8.mono (by have := hb7.size; simpa using this)))) none) (by simp)).three))
  clear g0 g1 g2 x0 x1 x2
  have hb78 : Below w6.heap.size w6 w8 := ((Below.refl _ _).drew).trans (hb7.trans (hb8.mono (by have := hb7.size; simpa using this)))
  have A_47 := A_37.grown (grownBy_of_below hb78 none) (by simp)
  have L_48 := L_38.trans (hb78.mono (by first | omega | (simp; omega)))
  have M0_49 := M0_39.below hb78
  have W0_50 := W0_40.grown (grownBy_of_below hb78 none) (by simp)
  have MX_51 := MX_41.below hb78
  have X0_52 := X0_42.grown (grownBy_of_below hb78 none) (by simp)
  have MG_53 := MG_43.below hb78
  have G0_54 := G0_44.grown (grownBy_of_below hb78 none) (by simp)
  clear A_37 G0_44 L_38 M0_39 MG_43 MX_41 W0_40 X0_42
  have z8 : w6.heap.size ≤ w8.heap.size := hb78.size
  clear hb78 hb7 hb8 m7 HMX HL HA HX
  obtain ⟨x0, x1, x2⟩ := X0_52.three
  go_wp2_with fail
  refine (markBits_any _ (some ⟨g4, 0, none⟩) zs.length zs a u 1 _ MX_51 (by omega) (by omega)).mono ?_
  rintro e w9 ⟨rfl, MX9, hg9⟩
  have hg9' : w8.grownBy w9 (some g4) := hg9
  clear x0 x1 x2
  have A_56 := A_47.grown hg9' (by simp; omega)
  have L_57 := L_48.grown hg9' (by omega) (by intro k e; simp at e; omega)
  have M0_58 := M0_49.grown hg9' (by intro k e; simp at e; subst e; exact M0f)
  have W0_59 := W0_50.grown hg9' (by simp; omega)
  have MG_60 := MG_53.grown hg9' (by intro k e; simp at e; subst e; exact MGf)
  have G0_61 := G0_54.grown hg9' (by simp; omega)
  clear A_47 G0_54 L_48 M0_49 MG_53 MX_51 W0_50 X0_52
  have z9 : w8.heap.size ≤ w9.heap.size := hg9.size
  clear hg9 hg9' MX9
  obtain ⟨y0, y1, y2⟩ := G0_61.three
  obtain ⟨v0, v1, v2⟩ := W0_59.three
  go_wp2_with fail
  refine (eqBits_same ao5 ao3 cap5 cap3 zd 0 ud _ MG_60.row M0_58.row (by omega)).mono ?_
  rintro e w10 ⟨rfl, hb10⟩
  clear y0 y1 y2 v0 v1 v2
  have A_64 := A_56.grown (grownBy_of_below hb10 none) (by simp)
  have L_65 := L_57.trans (hb10.mono (by first | omega | (simp; omega)))
  have M0_66 := M0_58.below hb10
  have W0_67 := W0_59.grown (grownBy_of_below hb10 none) (by simp)
  have MG_68 := MG_60.below hb10
  have G0_69 := G0_61.grown (grownBy_of_below hb10 none) (by simp)
  clear A_56 G0_61 L_57 M0_58 MG_60 W0_59
  have z10 : w9.heap.size ≤ w10.heap.size := hb10.size
  clear hb10
  obtain ⟨y0, y1, y2⟩ := G0_69.three
  go_wp2_with fail
  refine (markBits_any _ ao5 cap5 zd 0 ud 1 _ MG_68 (by omega) (by omega)).mono ?_
  rintro e w11 ⟨rfl, MG11, hg11⟩
  clear y0 y1 y2
  have A_71 := A_64.grown hg11 (by intro e; have := MGn _ e.symm; omega)
  have L_72 := L_65.grown hg11 (by omega) (by intro k e; have := MGn _ e; omega)
  have M0_73 := M0_66.grown hg11 M05
  have W0_74 := W0_67.grown hg11 (by intro e; have := MGn _ e.symm; omega)
  have G0_75 := G0_69.grown hg11 (by intro e; have := MGn _ e.symm; omega)
  clear A_64 G0_69 L_65 M0_66 MG_68 W0_67
  have z11 : w10.heap.size ≤ w11.heap.size := hg11.size
  clear hg11
  obtain ⟨y0, y1, y2⟩ := G0_75.three
  go_wp2_with fail
  refine (heldBits_any ao5 cap5 zd.length 0 ud 1 _ MG11.row (by omega) (by omega)).mono ?_
  rintro e w12 ⟨rfl, hb12⟩
  clear y0 y1 y2
  have A_77 := A_71.grown (grownBy_of_below hb12 none) (by simp)
  have L_78 := L_72.trans (hb12.mono (by first | omega | (simp; omega)))
  have M0_79 := M0_73.below hb12
  have W0_80 := W0_74.grown (grownBy_of_below hb12 none) (by simp)
  clear A_71 G0_75 L_72 M0_73 W0_74
  have z12 : w11.heap.size ≤ w12.heap.size := hb12.size
  clear hb12 MG11
  obtain ⟨g0, g1, g2⟩ := A_77.three
  go_wp2_with fail
  refine (toBits_any ao cap zs a u _ (HR.out.below L_78) (by omega)).mono ?_
  rintro e w13 ⟨g13, rfl, m13, hb13⟩
  clear g0 g1 g2
  have A_82 := A_77.grown (grownBy_of_below hb13 none) (by simp)
  have L_83 := L_78.trans (hb13.mono (by first | omega | (simp; omega)))
  have M0_84 := M0_79.below hb13
  have W0_85 := W0_80.grown (grownBy_of_below hb13 none) (by simp)
  clear A_77 L_78 M0_79 W0_80
  have z13 : w12.heap.size ≤ w13.heap.size := hb13.size
  clear hb13
  go_wp2_with fail
  refine (bitsAlign_any (some ⟨g13, 0, none⟩) zs.length zs a u _ m13.row (fun e => by cases e) (by omega)).mono ?_
  rintro e w14 ⟨⟨ao14, cap14, rfl, MH_0⟩, hb14⟩
  rw [HZD.out] at MH_0
  rw [HZD.out, HUD.out]
  have A_86 := A_82.grown (grownBy_of_below hb14 none) (by simp)
  have L_87 := L_83.trans (hb14.mono (by first | omega | (simp; omega)))
  have M0_88 := M0_84.below hb14
  have W0_89 := W0_85.grown (grownBy_of_below hb14 none) (by simp)
  clear A_82 L_83 M0_84 W0_85
  have z14 : w13.heap.size ≤ w14.heap.size := hb14.size
  clear hb14 m13
  have H0_0 := src_new w14 (.slice ao14 zd.length cap14) 0 ud 26
  have A_90 := src_alloc2 A_86 (.cells #[.slice ao14 zd.length cap14, .int .i64 0, .int .i64 ud] 26)
  have L_91 := L_87.alloc (by first | omega | (simp; omega)) (.cells #[.slice ao14 zd.length cap14, .int .i64 0, .int .i64 ud] 26)
  have M0_92 := M0_88.below ((Below.refl _ _).alloc (Nat.le_refl _) (.cells #[.slice ao14 zd.length cap14, .int .i64 0, .int .i64 ud] 26))
  have W0_93 := src_alloc2 W0_89 (.cells #[.slice ao14 zd.length cap14, .int .i64 0, .int .i64 ud] 26)
  have MH_94 := MH_0.below ((Below.refl _ _).alloc (Nat.le_refl _) (.cells #[.slice ao14 zd.length cap14, .int .i64 0, .int .i64 ud] 26))
  clear A_86 L_87 M0_88 W0_89
  obtain ⟨y0, y1, y2⟩ := H0_0.three
  obtain ⟨v0, v1, v2⟩ := W0_93.three
  go_wp2_with fail
  refine (eqBits_same ao14 ao3 cap14 cap3 zd 0 ud _ MH_94.row M0_92.row (by omega)).mono ?_
  rintro e w15 ⟨rfl, hb15⟩
  clear y0 y1 y2 v0 v1 v2
  have A_97 := A_90.grown (grownBy_of_below hb15 none) (by simp)
  have L_98 := L_91.trans (hb15.mono (by first | omega | (simp; omega)))
  have M0_99 := M0_92.below hb15
  have W0_100 := W0_93.grown (grownBy_of_below hb15 none) (by simp)
  have MH_101 := MH_94.below hb15
  have H0_102 := H0_0.grown (grownBy_of_below hb15 none) (by simp)
  clear A_90 H0_0 L_91 M0_92 MH_94 W0_93
  go_wp2_with fail
  go_ret
  exact ⟨rfl, L_98⟩
end Go.Proofs.Ytmfacacpoajpgab
