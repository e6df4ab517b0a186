import Derived.Test.YtmfacacpoajpgacWinP
namespace Go.Proofs.Ytmfacacpoajpgac
open Go.RowKit
attribute [local go_sem ↓] Go.wp_at_zero Go.wp_at_succ
set_option linter.unusedVariables false

theorem law_wput_big1 (ao : Option Addr) (n cap : Nat) (co : Option Addr) (m cc : Nat) (s : Int) (w : World) (hbig : 1048576 < m) (hm : m ≤ 9223372036854775807) :
    Calls Try.prog 8 #[.agg #[.int .i64 s, .slice ao n cap], .slice co m cc] w fun e w' => e = .returned (.bool true) ∧ Below w.heap.size w w' := by
  go_enter Try.func8, Try.ntmps8
  go_wp2_with fail
  go_ret
  exact ⟨rfl, (Below.refl _ _).alloc (Nat.le_refl _) _⟩

theorem law_wput_big2 (ao : Option Addr) (n cap : Nat) (co : Option Addr) (m cc : Nat) (s : Int) (w : World) (hm : m ≤ 1048576) (hn : n ≤ 9223372036854775807) (hbig : 1048576 < n) :
    Calls Try.prog 8 #[.agg #[.int .i64 s, .slice ao n cap], .slice co m cc] w fun e w' => e = .returned (.bool true) ∧ Below w.heap.size w w' := by
  go_enter Try.func8, Try.ntmps8
  go_wp2_with fail
  refine (szWindow_any ao n cap s 1048576 _ hn (by decide) (by decide)).mono ?_
  rintro e w1 ⟨rfl, hb1⟩
  rw [if_pos (by omega)]
  go_wp2_with fail
  go_ret
  exact ⟨rfl, ((Below.refl _ _).alloc (Nat.le_refl _) _).trans (hb1.mono (by simp))⟩

set_option maxRecDepth 100000 in
set_option maxHeartbeats 6400000 in
theorem law_wput (ao : Option Addr) (cap : Nat) (zs : List Int) (co : Option Addr) (cc : Nat) (cs : List Int) (s : Int) (w : World) (hr : Row w ao zs) (hn : zs.length ≤ 1048576) (hrc : Row w co cs) (hm : cs.length ≤ 1048576) :
    Calls Try.prog 8 #[.agg #[.int .i64 s, .slice ao zs.length cap], .slice co cs.length cc] w fun e w' => e = .returned (.bool true) ∧ Below w.heap.size w w' := by
  have A_0 := win_new w s (.slice ao zs.length cap) 50
  have L_0 : Below w.heap.size w (w.alloc (.cells #[.int .i64 s, .slice ao zs.length cap] 50)) := (Below.refl _ _).alloc (Nat.le_refl _) _
  have HR := hide1 hr
  clear hr
  have HC := hide1 hrc
  clear hrc
  go_enter Try.func8, Try.ntmps8
  go_wp2_with fail
  refine (szWindow_any ao zs.length cap s 1048576 _ (by omega) (by decide) (by decide)).mono ?_
  rintro e w1 ⟨rfl, hb1⟩
  rw [if_neg (by omega)]
  have z0 : w.heap.size < (w.alloc (.cells #[.int .i64 s, .slice ao zs.length cap] 50)).heap.size := by simp
  have A_1 := A_0.grown (grownBy_of_below hb1 none) (by simp)
  have L_2 := L_0.trans (hb1.mono (by first | omega | (simp; omega)))
  clear A_0 L_0
  have z1 : w.heap.size < w1.heap.size := A_1.lt
  clear hb1 z0
  obtain ⟨g0, g1⟩ := A_1.two
  go_wp2_with fail
  refine (toWindow_any ao cap zs s _ (HR.out.below L_2) (by omega)).mono ?_
  rintro e w2 ⟨gx, rfl, MA_0, hb2⟩
  clear g0 g1
  have A_3 := A_1.grown (grownBy_of_below hb2 none) (by simp)
  have L_4 := L_2.trans (hb2.mono (by first | omega | (simp; omega)))
  clear A_1 L_2
  have zw2 : w1.heap.size ≤ w2.heap.size := hb2.size
  clear hb2
  go_wp2_with fail
  refine (toByteS_any co cc cs _ (HC.out.below L_4) (by omega)).mono ?_
  rintro e w3 ⟨rfl, ow3, hb3⟩
  have MC_0 := (OwnsB.mine ow3)
  clear ow3
  have A_5 := A_3.grown (grownBy_of_below hb3 none) (by simp)
  have L_6 := L_4.trans (hb3.mono (by first | omega | (simp; omega)))
  have MA_7 := MA_0.below hb3
  clear A_3 L_4 MA_0
  have zw3 : w2.heap.size ≤ w3.heap.size := hb3.size
  clear hb3
  go_wp2_with fail
  refine (sput_any s zs cs (some ⟨gx, 0, none⟩) zs.length (some ⟨w2.heap.size, 0, none⟩) cs.length _ MA_7.arg MC_0.arg (by omega) (by omega)).mono ?_
  rintro e w4 ⟨⟨ao4, cap4, rfl, O0⟩, hb4⟩
  have M0_0 := O0.mine
  clear O0
  have M0z : ∀ ad, ao4 = some ad → ad.block < w4.heap.size := fun ad e => (M0_0.lies ad e).2.1
  have A_8 := A_5.grown (grownBy_of_below hb4 none) (by simp)
  have L_9 := L_6.trans (hb4.mono (by first | omega | (simp; omega)))
  clear A_5 L_6 MA_7 MC_0
  have zw4 : w3.heap.size ≤ w4.heap.size := hb4.size
  clear hb4
  have hzl : (if vwin zs.length s = true then lastN s.toNat (zs ++ cs) else []).length ≤ 4194304 := by split; rw [lastN_len, List.length_append]; omega; simp
  generalize hzd : (if vwin zs.length s = true then lastN s.toNat (zs ++ cs) else []) = zd at *
  generalize hsd : (if vwin zs.length s = true then s else 0) = sd at *
  have HZD := hide1 hzd
  have HSD := hide1 hsd
  clear hzd hsd
  have W0_0 := win_new w4 sd (.slice ao4 zd.length cap4) 41
  have A_10 := A_8.grown (World.grownBy_alloc _ (.cells #[.int .i64 sd, .slice ao4 zd.length cap4] 41) none) (by simp)
  have L_11 := L_9.alloc (by first | omega | (simp; omega)) (.cells #[.int .i64 sd, .slice ao4 zd.length cap4] 41)
  have M0_12 := M0_0.below ((Below.refl _ _).alloc (Nat.le_refl _) (.cells #[.int .i64 sd, .slice ao4 zd.length cap4] 41))
  clear A_8 L_9 M0_0
  obtain ⟨g0, g1⟩ := A_10.two
  go_wp2_with fail
  refine (toWindow_any ao cap zs s _ (HR.out.below L_11) (by omega)).mono ?_
  rintro e w5 ⟨g5, rfl, MX_0, hb5⟩
  clear g0 g1
  have MXl : w4.heap.size < g5 ∧ g5 < w5.heap.size := by have := MX_0.lies _ rfl; simp at this; omega
  have A_13 := A_10.grown (grownBy_of_below hb5 none) (by simp)
  have L_14 := L_11.trans (hb5.mono (by first | omega | (simp; omega)))
  have M0_15 := M0_12.below hb5
  have W0_16 := W0_0.grown (grownBy_of_below hb5 none) (by simp)
  clear A_10 L_11 M0_12 W0_0
  have zw5 : w4.heap.size < w5.heap.size := by have := hb5.size; simp at this; omega
  clear hb5
  have X0_0 := win_new w5 s (.slice (some ⟨g5, 0, none⟩) zs.length zs.length) 41
  have A_17 := A_13.grown (World.grownBy_alloc _ (.cells #[.int .i64 s, .slice (some ⟨g5, 0, none⟩) zs.length zs.length] 41) none) (by simp)
  have L_18 := L_14.alloc (by first | omega | (simp; omega)) (.cells #[.int .i64 s, .slice (some ⟨g5, 0, none⟩) zs.length zs.length] 41)
  have M0_19 := M0_15.below ((Below.refl _ _).alloc (Nat.le_refl _) (.cells #[.int .i64 s, .slice (some ⟨g5, 0, none⟩) zs.length zs.length] 41))
  have W0_20 := W0_16.grown (World.grownBy_alloc _ (.cells #[.int .i64 s, .slice (some ⟨g5, 0, none⟩) zs.length zs.length] 41) none) (by simp)
  have MX_21 := MX_0.below ((Below.refl _ _).alloc (Nat.le_refl _) (.cells #[.int .i64 s, .slice (some ⟨g5, 0, none⟩) zs.length zs.length] 41))
  clear A_13 L_14 M0_15 W0_16 MX_0
  go_wp2_with fail
  refine (toByteS_any co cc cs _ (HC.out.below L_18) (by omega)).mono ?_
  rintro e w6 ⟨rfl, ow6, hb6⟩
  have MY_0 := (OwnsB.mine ow6)
  clear ow6
  simp only [World.size_alloc] at MY_0
  have MYl : w5.heap.size + 1 < w6.heap.size := by have := (MY_0.lies _ rfl).2.1; exact this
  have A_22 := A_17.grown (grownBy_of_below hb6 none) (by simp)
  have L_23 := L_18.trans (hb6.mono (by first | omega | (simp; omega)))
  have M0_24 := M0_19.below hb6
  have W0_25 := W0_20.grown (grownBy_of_below hb6 none) (by simp)
  have MX_26 := MX_21.below hb6
  have X0_27 := X0_0.grown (grownBy_of_below hb6 none) (by simp)
  clear A_17 L_18 M0_19 W0_20 MX_21 X0_0
  have zw6 : w5.heap.size < w6.heap.size := by have := hb6.size; simp at this; omega
  clear hb6
  obtain ⟨x0, x1⟩ := X0_27.two
  simp only [World.size_alloc]
  go_wp2_with fail
  refine (iput_any s zs cs (some ⟨g5, 0, none⟩) zs.length (some ⟨w5.heap.size + 1, 0, none⟩) cs.length _ MX_26.arg MY_0.arg (by omega) (by omega)).mono ?_
  rintro e w7 ⟨⟨ao7, cap7, rfl, O7⟩, hb7⟩
  have MG_0 := O7.mine
  clear O7
  clear x0 x1
  rw [HZD.out] at MG_0
  rw [HZD.out, HSD.out]
  have MGz : ∀ a2, ao7 = some a2 → w6.heap.size ≤ a2.block ∧ a2.block < w7.heap.size := fun a2 e => by have := MG_0.lies a2 e; omega
  have MGn : ∀ k, blk ao7 = some k → w6.heap.size ≤ k ∧ k < w7.heap.size := by intro k e; cases ao7 with | none => cases e | some a2 => (have := MGz a2 rfl; simp [blk] at e; omega)
  have M0n : ∀ k, blk ao4 = some k → k < w4.heap.size := by intro k e; cases ao4 with | none => cases e | some a2 => (have := M0z a2 rfl; simp [blk] at e; omega)
  have A_28 := A_22.grown (grownBy_of_below hb7 none) (by simp)
  have L_29 := L_23.trans (hb7.mono (by first | omega | (simp; omega)))
  have M0_30 := M0_24.below hb7
  have W0_31 := W0_25.grown (grownBy_of_below hb7 none) (by simp)
  have MX_32 := MX_26.below hb7
  have X0_33 := X0_27.grown (grownBy_of_below hb7 none) (by simp)
  have MY_34 := MY_0.below hb7
  clear A_22 L_23 M0_24 W0_25 MX_26 X0_27 MY_0
  have zw7 : w6.heap.size ≤ w7.heap.size := hb7.size
  clear hb7
  have G0_0 := win_new w7 sd (.slice ao7 zd.length cap7) 41
  have A_35 := A_28.grown (World.grownBy_alloc _ (.cells #[.int .i64 sd, .slice ao7 zd.length cap7] 41) none) (by simp)
  have L_36 := L_29.alloc (by first | omega | (simp; omega)) (.cells #[.int .i64 sd, .slice ao7 zd.length cap7] 41)
  have M0_37 := M0_30.below ((Below.refl _ _).alloc (Nat.le_refl _) (.cells #[.int .i64 sd, .slice ao7 zd.length cap7] 41))
  have W0_38 := W0_31.grown (World.grownBy_alloc _ (.cells #[.int .i64 sd, .slice ao7 zd.length cap7] 41) none) (by simp)
  have MX_39 := MX_32.below ((Below.refl _ _).alloc (Nat.le_refl _) (.cells #[.int .i64 sd, .slice ao7 zd.length cap7] 41))
  have X0_40 := X0_33.grown (World.grownBy_alloc _ (.cells #[.int .i64 sd, .slice ao7 zd.length cap7] 41) none) (by simp)
  have MY_41 := MY_34.below ((Below.refl _ _).alloc (Nat.le_refl _) (.cells #[.int .i64 sd, .slice ao7 zd.length cap7] 41))
  have MG_42 := MG_0.below ((Below.refl _ _).alloc (Nat.le_refl _) (.cells #[.int .i64 sd, .slice ao7 zd.length cap7] 41))
  clear A_28 L_29 M0_30 W0_31 MX_32 X0_33 MY_34 MG_0
  obtain ⟨y0, y1⟩ := G0_0.two
  obtain ⟨v0, v1⟩ := W0_38.two
  go_wp2_with fail
  refine (eqWindow_same ao7 ao4 cap7 cap4 zd sd _ MG_42.row M0_37.row (by omega)).mono ?_
  rintro e w8 ⟨rfl, hb8⟩
  clear y0 y1 v0 v1
  have A_43 := A_35.grown (grownBy_of_below hb8 none) (by simp)
  have L_44 := L_36.trans (hb8.mono (by first | omega | (simp; omega)))
  have M0_45 := M0_37.below hb8
  have W0_46 := W0_38.grown (grownBy_of_below hb8 none) (by simp)
  have MX_47 := MX_39.below hb8
  have X0_48 := X0_40.grown (grownBy_of_below hb8 none) (by simp)
  have MY_49 := MY_41.below hb8
  have MG_50 := MG_42.below hb8
  have G0_51 := G0_0.grown (grownBy_of_below hb8 none) (by simp)
  clear A_35 L_36 M0_37 W0_38 MX_39 X0_40 MY_41 MG_42 G0_0
  have zw8 : w7.heap.size < w8.heap.size := by have := hb8.size; simp at this; omega
  clear hb8
  obtain ⟨g0, g1⟩ := A_43.two
  obtain ⟨x0, x1⟩ := X0_48.two
  have HMX := hide1 MX_47
  have HL := hide1 L_44
  have HA := hide1 A_43
  have HX := hide1 X0_48
  go_wp2_with fail
  go_region_held3 (fun w' => w'.cell? ⟨w.heap.size, 0, none⟩ = some (.int .i64 s) ∧ w'.cell? ⟨w.heap.size, 1, none⟩ = some (.slice ao zs.length cap) ∧ w'.cell? ⟨w5.heap.size, 0, none⟩ = some (.int .i64 s) ∧ w'.cell? ⟨w5.heap.size, 1, none⟩ = some (.slice (some ⟨g5, 0, none⟩) zs.length zs.length))
    (first | (refine ⟨?_, ?_, ?_, ?_⟩ <;> assumption) | (go_keep; done))
    (first | (go_at_call 29; refine (toWindow_any ao cap zs s _ (HR.out.below HL.out.drew) (by omega)).mono ?_; rintro e w9 ⟨g9, rfl, m9, hb9⟩; obtain ⟨_, _⟩ := (HA.out.below (((Below.refl _ _).drew).trans hb9)).two; obtain ⟨_, _⟩ := (HX.out.below (((Below.refl _ _).drew).trans hb9)).two)
           | (go_at_call 30; refine (eqWindow_same (some ⟨g5, 0, none⟩) (some ⟨g9, 0, none⟩) _ _ zs s _ (HMX.out.row.below (((Below.refl _ _).drew).trans hb9)) m9.row (by omega)).mono ?_; rintro e w10 ⟨rfl, hb10⟩; obtain ⟨_, _⟩ := (HA.out.below (((Below.refl _ _).drew).trans (hb9.trans (hb10.mono (by have := hb9.size; simpa using this))))).two; obtain ⟨_, _⟩ := (HX.out.below (((Below.refl _ _).drew).trans (hb9.trans (hb10.mono (by have := hb9.size; simpa using this))))).two))
  clear g0 g1 x0 x1
  have hb910 : Below w8.heap.size w8 w10 := ((Below.refl _ _).drew).trans (hb9.trans (hb10.mono (by have := hb9.size; simpa using this)))
  clear hb9 hb10 m9 HMX HL HA HX
  have A_52 := A_43.grown (grownBy_of_below hb910 none) (by simp)
  have L_53 := L_44.trans (hb910.mono (by first | omega | (simp; omega)))
  have M0_54 := M0_45.below hb910
  have W0_55 := W0_46.grown (grownBy_of_below hb910 none) (by simp)
  have MX_56 := MX_47.below hb910
  have X0_57 := X0_48.grown (grownBy_of_below hb910 none) (by simp)
  have MY_58 := MY_49.below hb910
  have MG_59 := MG_50.below hb910
  have G0_60 := G0_51.grown (grownBy_of_below hb910 none) (by simp)
  clear A_43 L_44 M0_45 W0_46 MX_47 X0_48 MY_49 MG_50 G0_51
  have zw10 : w8.heap.size ≤ w10.heap.size := hb910.size
  clear hb910
  go_wp2_with fail
  refine (toByteS_any co cc cs _ (HC.out.below L_53) (by omega)).mono ?_
  rintro e w11 ⟨rfl, ow11, hb11⟩
  have MZ_0 := (OwnsB.mine ow11)
  clear ow11
  have A_61 := A_52.grown (grownBy_of_below hb11 none) (by simp)
  have L_62 := L_53.trans (hb11.mono (by first | omega | (simp; omega)))
  have M0_63 := M0_54.below hb11
  have W0_64 := W0_55.grown (grownBy_of_below hb11 none) (by simp)
  have MX_65 := MX_56.below hb11
  have X0_66 := X0_57.grown (grownBy_of_below hb11 none) (by simp)
  have MY_67 := MY_58.below hb11
  have MG_68 := MG_59.below hb11
  have G0_69 := G0_60.grown (grownBy_of_below hb11 none) (by simp)
  clear A_52 L_53 M0_54 W0_55 MX_56 X0_57 MY_58 MG_59 G0_60
  have zw11 : w10.heap.size ≤ w11.heap.size := hb11.size
  clear hb11
  go_wp2_with fail
  refine (eqByteS_any _ _ _ _ cs cs _ MY_67.row MZ_0.row (by omega)).mono ?_
  rintro e w12 ⟨rfl, q12, e12⟩
  have hb12 : Below w11.heap.size w11 w12 := by rw [e12]; exact below_drewN' _ _ _
  clear e12
  rw [decide_eq_true rfl]
  have A_70 := A_61.grown (grownBy_of_below hb12 none) (by simp)
  have L_71 := L_62.trans (hb12.mono (by first | omega | (simp; omega)))
  have M0_72 := M0_63.below hb12
  have W0_73 := W0_64.grown (grownBy_of_below hb12 none) (by simp)
  have MX_74 := MX_65.below hb12
  have X0_75 := X0_66.grown (grownBy_of_below hb12 none) (by simp)
  have MY_76 := MY_67.below hb12
  have MG_77 := MG_68.below hb12
  have G0_78 := G0_69.grown (grownBy_of_below hb12 none) (by simp)
  clear A_61 L_62 M0_63 W0_64 MX_65 X0_66 MY_67 MG_68 G0_69 MZ_0
  have zw12 : w11.heap.size ≤ w12.heap.size := hb12.size
  clear hb12
  obtain ⟨x0, x1⟩ := X0_75.two
  go_wp2_with fail
  refine (markWindow_any _ (some ⟨g5, 0, none⟩) zs.length zs s 1 _ MX_74 (by omega) (by omega)).mono ?_
  rintro e w13 ⟨rfl, mk13, hg13⟩
  have hg13' : w12.grownBy w13 (some g5) := hg13
  clear x0 x1
  have A_79 := A_70.grown hg13' (by first | (simp; done) | (simp; omega))
  have L_80 := L_71.grown hg13' (by omega) (by intro k e; simp at e; omega)
  have M0_81 := M0_72.grown hg13' (by intro k e; simp at e; subst e; intro h; have := M0n _ h; omega)
  have W0_82 := W0_73.grown hg13' (by first | (simp; done) | (simp; omega))
  have MY_83 := MY_76.grown hg13' (by intro k e; simp at e; subst e; simp [blk]; omega)
  have MG_84 := MG_77.grown hg13' (by intro k e; simp at e; subst e; intro h; have := MGn _ h; omega)
  have G0_85 := G0_78.grown hg13' (by first | (simp; done) | (simp; omega))
  clear A_70 L_71 M0_72 W0_73 MX_74 X0_75 MY_76 MG_77 G0_78
  have zw13 : w12.heap.size ≤ w13.heap.size := hg13.size
  clear hg13 hg13' mk13
  go_wp2_with fail
  refine (markByteS_any (some ⟨w5.heap.size + 1, 0, none⟩) cs.length cs (1 + zs.length) _ MY_83.row MY_83.free (by omega) (by omega)).mono ?_
  rintro e w14 ⟨rfl, mk14, mo14, hg14, hs14⟩
  have hg14' : w13.grownBy w14 (some (w5.heap.size + 1)) := hg14
  have A_86 := A_79.grown hg14' (by first | (simp; done) | (simp; omega))
  have L_87 := L_80.grown hg14' (by omega) (by intro k e; simp at e; omega)
  have M0_88 := M0_81.grown hg14' (by intro k e; simp at e; subst e; intro h; have := M0n _ h; omega)
  have W0_89 := W0_82.grown hg14' (by first | (simp; done) | (simp; omega))
  have MG_90 := MG_84.grown hg14' (by intro k e; simp at e; subst e; intro h; have := MGn _ h; omega)
  have G0_91 := G0_85.grown hg14' (by first | (simp; done) | (simp; omega))
  clear A_79 L_80 M0_81 W0_82 MY_83 MG_84 G0_85
  have zw14 : w13.heap.size ≤ w14.heap.size := hg14.size
  clear hg14 hg14' mk14 mo14 hs14
  obtain ⟨y0, y1⟩ := G0_91.two
  obtain ⟨v0, v1⟩ := W0_89.two
  go_wp2_with fail
  refine (eqWindow_same ao7 ao4 cap7 cap4 zd sd _ MG_90.row M0_88.row (by omega)).mono ?_
  rintro e w15 ⟨rfl, hb15⟩
  clear y0 y1 v0 v1
  have A_92 := A_86.grown (grownBy_of_below hb15 none) (by simp)
  have L_93 := L_87.trans (hb15.mono (by first | omega | (simp; omega)))
  have M0_94 := M0_88.below hb15
  have W0_95 := W0_89.grown (grownBy_of_below hb15 none) (by simp)
  have MG_96 := MG_90.below hb15
  have G0_97 := G0_91.grown (grownBy_of_below hb15 none) (by simp)
  clear A_86 L_87 M0_88 W0_89 MG_90 G0_91
  have zw15 : w14.heap.size ≤ w15.heap.size := hb15.size
  clear hb15
  obtain ⟨y0, y1⟩ := G0_97.two
  go_wp2_with fail
  refine (markWindow_any _ ao7 cap7 zd sd 1 _ MG_96 (by omega) (by omega)).mono ?_
  rintro e w16 ⟨rfl, mg16, hg16⟩
  clear y0 y1
  have A_98 := A_92.grown hg16 (by intro e; have := MGn _ e.symm; omega)
  have L_99 := L_93.grown hg16 (by omega) (by intro k e; have := MGn _ e; omega)
  have M0_100 := M0_94.grown hg16 (by intro k e h; have := MGn _ e; have := M0n _ h; omega)
  have W0_101 := W0_95.grown hg16 (by intro e; have := MGn _ e.symm; omega)
  have G0_102 := G0_97.grown hg16 (by intro e; have := MGn _ e.symm; omega)
  clear A_92 L_93 M0_94 W0_95 MG_96 G0_97
  have zw16 : w15.heap.size ≤ w16.heap.size := hg16.size
  clear hg16
  obtain ⟨y0, y1⟩ := G0_102.two
  go_wp2_with fail
  refine (heldWindow_any ao7 cap7 zd.length sd 1 _ mg16.row (by omega) (by omega)).mono ?_
  rintro e w17 ⟨rfl, hb17⟩
  clear y0 y1
  clear G0_102
  have A_103 := A_98.grown (grownBy_of_below hb17 none) (by simp)
  have L_104 := L_99.trans (hb17.mono (by first | omega | (simp; omega)))
  have M0_105 := M0_100.below hb17
  have W0_106 := W0_101.grown (grownBy_of_below hb17 none) (by simp)
  clear A_98 L_99 M0_100 W0_101
  have zw17 : w16.heap.size ≤ w17.heap.size := hb17.size
  clear hb17
  clear mg16
  obtain ⟨g0, g1⟩ := A_103.two
  go_wp2_with fail
  refine (toWindow_any ao cap zs s _ (HR.out.below L_104) (by omega)).mono ?_
  rintro e w18 ⟨g18, rfl, ML_0, hb18⟩
  clear g0 g1
  have A_107 := A_103.grown (grownBy_of_below hb18 none) (by simp)
  have L_108 := L_104.trans (hb18.mono (by first | omega | (simp; omega)))
  have M0_109 := M0_105.below hb18
  have W0_110 := W0_106.grown (grownBy_of_below hb18 none) (by simp)
  clear A_103 L_104 M0_105 W0_106
  have zw18 : w17.heap.size ≤ w18.heap.size := hb18.size
  clear hb18
  go_wp2_with fail
  refine (toByteS_any co cc cs _ (HC.out.below L_108) (by omega)).mono ?_
  rintro e w19 ⟨rfl, ow19, hb19⟩
  have MN_0 := (OwnsB.mine ow19)
  clear ow19
  have A_111 := A_107.grown (grownBy_of_below hb19 none) (by simp)
  have L_112 := L_108.trans (hb19.mono (by first | omega | (simp; omega)))
  have M0_113 := M0_109.below hb19
  have W0_114 := W0_110.grown (grownBy_of_below hb19 none) (by simp)
  have ML_115 := ML_0.below hb19
  clear A_107 L_108 M0_109 W0_110 ML_0
  have zw19 : w18.heap.size ≤ w19.heap.size := hb19.size
  clear hb19
  go_wp2_with fail
  refine (iput_any s zs cs (some ⟨g18, 0, none⟩) zs.length (some ⟨w18.heap.size, 0, none⟩) cs.length _ ML_115.arg MN_0.arg (by omega) (by omega)).mono ?_
  rintro e w20 ⟨⟨ao20, cap20, rfl, O20⟩, hb20⟩
  have MH_0 := O20.mine
  clear O20
  rw [HZD.out] at MH_0
  rw [HZD.out, HSD.out]
  have A_116 := A_111.grown (grownBy_of_below hb20 none) (by simp)
  have L_117 := L_112.trans (hb20.mono (by first | omega | (simp; omega)))
  have M0_118 := M0_113.below hb20
  have W0_119 := W0_114.grown (grownBy_of_below hb20 none) (by simp)
  clear A_111 L_112 M0_113 W0_114 ML_115 MN_0
  have zw20 : w19.heap.size ≤ w20.heap.size := hb20.size
  clear hb20
  have H0_0 := win_new w20 sd (.slice ao20 zd.length cap20) 41
  have A_120 := A_116.grown (World.grownBy_alloc _ (.cells #[.int .i64 sd, .slice ao20 zd.length cap20] 41) none) (by simp)
  have L_121 := L_117.alloc (by first | omega | (simp; omega)) (.cells #[.int .i64 sd, .slice ao20 zd.length cap20] 41)
  have M0_122 := M0_118.below ((Below.refl _ _).alloc (Nat.le_refl _) (.cells #[.int .i64 sd, .slice ao20 zd.length cap20] 41))
  have W0_123 := W0_119.grown (World.grownBy_alloc _ (.cells #[.int .i64 sd, .slice ao20 zd.length cap20] 41) none) (by simp)
  have MH_124 := MH_0.below ((Below.refl _ _).alloc (Nat.le_refl _) (.cells #[.int .i64 sd, .slice ao20 zd.length cap20] 41))
  clear A_116 L_117 M0_118 W0_119 MH_0
  obtain ⟨y0, y1⟩ := H0_0.two
  obtain ⟨v0, v1⟩ := W0_123.two
  go_wp2_with fail
  refine (eqWindow_same ao20 ao4 cap20 cap4 zd sd _ MH_124.row M0_122.row (by omega)).mono ?_
  rintro e w21 ⟨rfl, hb21⟩
  clear y0 y1 v0 v1
  have A_125 := A_120.grown (grownBy_of_below hb21 none) (by simp)
  have L_126 := L_121.trans (hb21.mono (by first | omega | (simp; omega)))
  have M0_127 := M0_122.below hb21
  have W0_128 := W0_123.grown (grownBy_of_below hb21 none) (by simp)
  have MH_129 := MH_124.below hb21
  have H0_130 := H0_0.grown (grownBy_of_below hb21 none) (by simp)
  clear A_120 L_121 M0_122 W0_123 MH_124 H0_0
  go_wp2_with fail
  go_ret
  exact ⟨rfl, L_126⟩
end Go.Proofs.Ytmfacacpoajpgac
