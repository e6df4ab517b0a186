import Derived.Test.YtjknaigdlkpiaaaLawC
namespace Go.Proofs.Ytjknaigdlkpiaaa
open Go.RowKit
attribute [local go_sem ↓] Go.wp_at_zero Go.wp_at_succ
set_option linter.unusedVariables false

theorem law_wcopy_big (ao : Option Addr) (n cap : Nat) (s d m : Int) (w : World) (hn : n ≤ 9223372036854775807) (hbig : 1048576 < n) :
    Calls Try.prog 3 #[.agg #[.int .i64 s, .slice ao n cap], .int .i64 d, .int .i64 m] w fun e w' => e = .returned (.bool true) ∧ Below w.heap.size w w' := by
  go_enter Try.func3, Try.ntmps3
  go_wp2_with fail
  refine (szWindow_any ao n cap s 1048576 _ hn (by decide) (by decide)).mono ?_
  rintro e w1 ⟨rfl, hb1⟩
  rw [if_pos (by omega)]
  go_wp2_with fail
  go_ret
  exact ⟨rfl, ((Below.refl _ _).alloc (Nat.le_refl _) _).trans (hb1.mono (by simp))⟩

set_option maxRecDepth 100000 in
set_option maxHeartbeats 6400000 in
theorem law_wcopy (ao : Option Addr) (cap : Nat) (zs : List Int) (s d m : Int) (w : World) (hr : Row w ao zs) (hn : zs.length ≤ 1048576) :
    Calls Try.prog 3 #[.agg #[.int .i64 s, .slice ao zs.length cap], .int .i64 d, .int .i64 m] w fun e w' => e = .returned (.bool true) ∧ Below w.heap.size w w' := by
  have A_0 := win_new w s (.slice ao zs.length cap) 24
  have L_0 : Below w.heap.size w (w.alloc (.cells #[.int .i64 s, .slice ao zs.length cap] 24)) := (Below.refl _ _).alloc (Nat.le_refl _) _
  have HR := hide1 hr
  clear hr
  go_enter Try.func3, Try.ntmps3
  go_wp2_with fail
  refine (szWindow_any ao zs.length cap s 1048576 _ (by omega) (by decide) (by decide)).mono ?_
  rintro e w1 ⟨rfl, hb1⟩
  rw [if_neg (by omega)]
  have z0 : w.heap.size < (w.alloc (.cells #[.int .i64 s, .slice ao zs.length cap] 24)).heap.size := by simp
  have A_1 := A_0.grown (grownBy_of_below hb1 none) (by simp)
  have L_2 := L_0.trans (hb1.mono (by first | omega | (simp; omega)))
  clear A_0 L_0
  have z1 : w.heap.size < w1.heap.size := A_1.lt
  clear hb1 z0
  obtain ⟨g0, g1⟩ := A_1.two
  go_wp2_with fail
  refine (toWindow_any ao cap zs s _ (HR.out.below L_2) (by omega)).mono ?_
  rintro e w2 ⟨gx, rfl, MA_0, hb2⟩
  clear g0 g1
  have A_3 := A_1.grown (grownBy_of_below hb2 none) (by simp)
  have L_4 := L_2.trans (hb2.mono (by first | omega | (simp; omega)))
  clear A_1 L_2
  have zw2 : w1.heap.size ≤ w2.heap.size := hb2.size
  clear hb2
  go_wp2_with fail
  refine (scopy_any s d m zs (some ⟨gx, 0, none⟩) zs.length _ MA_0.arg (by omega)).mono ?_
  rintro e w4 ⟨⟨ao4, cap4, bo4, bc4, rfl, M0a_0, M0b_0, hap4⟩, hb4⟩
  have M0n : ∀ k, blk ao4 = some k → k < w4.heap.size := fun k e => (blk_mine M0a_0 e).2
  have M0m : ∀ k, blk bo4 = some k → k < w4.heap.size := fun k e => (blk_mine M0b_0 e).2
  have A_5 := A_3.grown (grownBy_of_below hb4 none) (by simp)
  have L_6 := L_4.trans (hb4.mono (by first | omega | (simp; omega)))
  clear A_3 L_4 MA_0
  have zw4 : w2.heap.size ≤ w4.heap.size := hb4.size
  clear hb4
  have hdl : (if vcpy zs.length s d m = true then dataN zs d.toNat m.toNat else []).length ≤ 4194304 := by split; rename_i hv; obtain ⟨_, _, _, _, _, rfl, _, _, _, _, _, _, _, _⟩ := vcpy_true hv; rw [dataN_len]; omega; simp
  have hzl : (if vcpy zs.length s d m = true then lastN s.toNat (copyN zs d.toNat m.toNat) else []).length ≤ 4194304 := by split; rename_i hv; obtain ⟨_, _, _, _, _, rfl, _, _, _, _, _, _, _, _⟩ := vcpy_true hv; rw [lastN_len, copyN_len]; omega; simp
  generalize hds : (if vcpy zs.length s d m = true then dataN zs d.toNat m.toNat else []) = ds at *
  generalize hzd : (if vcpy zs.length s d m = true then lastN s.toNat (copyN zs d.toNat m.toNat) else []) = zd at *
  generalize hsd : (if vcpy zs.length s d m = true then s else 0) = sd at *
  generalize hvb : vcpy zs.length s d m = vb at *
  have HZD := hide1 hzd
  have HSD := hide1 hsd
  have HDS := hide1 hds
  have HVB := hide1 hvb
  clear hzd hsd hds hvb
  have W0_0 := cpy_new w4 vb (.slice ao4 ds.length cap4) sd (.slice bo4 zd.length bc4) 28
  have A_7 := A_5.grown (World.grownBy_alloc _ (.cells #[.bool vb, .slice ao4 ds.length cap4, .int .i64 sd, .slice bo4 zd.length bc4] 28) none) (by simp)
  have L_8 := L_6.alloc (by first | omega | (simp; omega)) (.cells #[.bool vb, .slice ao4 ds.length cap4, .int .i64 sd, .slice bo4 zd.length bc4] 28)
  have M0a_9 := M0a_0.below ((Below.refl _ _).alloc (Nat.le_refl _) (.cells #[.bool vb, .slice ao4 ds.length cap4, .int .i64 sd, .slice bo4 zd.length bc4] 28))
  have M0b_10 := M0b_0.below ((Below.refl _ _).alloc (Nat.le_refl _) (.cells #[.bool vb, .slice ao4 ds.length cap4, .int .i64 sd, .slice bo4 zd.length bc4] 28))
  clear A_5 L_6 M0a_0 M0b_0
  obtain ⟨g0, g1⟩ := A_7.two
  go_wp2_with fail
  refine (toWindow_any ao cap zs s _ (HR.out.below L_8) (by omega)).mono ?_
  rintro e w5 ⟨g5, rfl, MX_0, hb5⟩
  clear g0 g1
  have MXl : w4.heap.size < g5 ∧ g5 < w5.heap.size := by have := MX_0.lies _ rfl; simp at this; omega
  have A_11 := A_7.grown (grownBy_of_below hb5 none) (by simp)
  have L_12 := L_8.trans (hb5.mono (by first | omega | (simp; omega)))
  have M0a_13 := M0a_9.below hb5
  have M0b_14 := M0b_10.below hb5
  have W0_15 := W0_0.grown (grownBy_of_below hb5 none) (by simp)
  clear A_7 L_8 M0a_9 M0b_10 W0_0
  have zw5 : w4.heap.size < w5.heap.size := by have := hb5.size; simp at this; omega
  clear hb5
  have X0_0 := win_new w5 s (.slice (some ⟨g5, 0, none⟩) zs.length zs.length) 26
  have A_16 := A_11.grown (World.grownBy_alloc _ (.cells #[.int .i64 s, .slice (some ⟨g5, 0, none⟩) zs.length zs.length] 26) none) (by simp)
  have L_17 := L_12.alloc (by first | omega | (simp; omega)) (.cells #[.int .i64 s, .slice (some ⟨g5, 0, none⟩) zs.length zs.length] 26)
  have M0a_18 := M0a_13.below ((Below.refl _ _).alloc (Nat.le_refl _) (.cells #[.int .i64 s, .slice (some ⟨g5, 0, none⟩) zs.length zs.length] 26))
  have M0b_19 := M0b_14.below ((Below.refl _ _).alloc (Nat.le_refl _) (.cells #[.int .i64 s, .slice (some ⟨g5, 0, none⟩) zs.length zs.length] 26))
  have W0_20 := W0_15.grown (World.grownBy_alloc _ (.cells #[.int .i64 s, .slice (some ⟨g5, 0, none⟩) zs.length zs.length] 26) none) (by simp)
  have MX_21 := MX_0.below ((Below.refl _ _).alloc (Nat.le_refl _) (.cells #[.int .i64 s, .slice (some ⟨g5, 0, none⟩) zs.length zs.length] 26))
  clear A_11 L_12 M0a_13 M0b_14 W0_15 MX_0
  obtain ⟨x0, x1⟩ := X0_0.two
  go_wp2_with fail
  refine (icopy_any s d m zs (some ⟨g5, 0, none⟩) zs.length _ MX_21.arg (by omega)).mono ?_
  rintro e w7 ⟨⟨ao7, cap7, bo7, bc7, rfl, MGa_0, MGb_0, hap7⟩, hb7⟩
  clear x0 x1
  rw [HVB.out, HDS.out] at MGa_0
  rw [HVB.out, HZD.out] at MGb_0
  rw [HVB.out, HDS.out, HZD.out, HSD.out]
  simp only [World.size_alloc] at MGa_0 MGb_0
  have MGn : ∀ k, blk ao7 = some k → w5.heap.size < k ∧ k < w7.heap.size := fun k e => by have := blk_mine MGa_0 e; omega
  have MGm : ∀ k, blk bo7 = some k → w5.heap.size < k ∧ k < w7.heap.size := fun k e => by have := blk_mine MGb_0 e; omega
  have A_22 := A_16.grown (grownBy_of_below hb7 none) (by simp)
  have L_23 := L_17.trans (hb7.mono (by first | omega | (simp; omega)))
  have M0a_24 := M0a_18.below hb7
  have M0b_25 := M0b_19.below hb7
  have W0_26 := W0_20.grown (grownBy_of_below hb7 none) (by simp)
  have MX_27 := MX_21.below hb7
  have X0_28 := X0_0.grown (grownBy_of_below hb7 none) (by simp)
  clear A_16 L_17 M0a_18 M0b_19 W0_20 MX_21 X0_0
  have zw7 : w5.heap.size < w7.heap.size := by have := hb7.size; simp at this; omega
  clear hb7
  have G0_0 := cpy_new w7 vb (.slice ao7 ds.length cap7) sd (.slice bo7 zd.length bc7) 28
  have A_29 := A_22.grown (World.grownBy_alloc _ (.cells #[.bool vb, .slice ao7 ds.length cap7, .int .i64 sd, .slice bo7 zd.length bc7] 28) none) (by simp)
  have L_30 := L_23.alloc (by first | omega | (simp; omega)) (.cells #[.bool vb, .slice ao7 ds.length cap7, .int .i64 sd, .slice bo7 zd.length bc7] 28)
  have M0a_31 := M0a_24.below ((Below.refl _ _).alloc (Nat.le_refl _) (.cells #[.bool vb, .slice ao7 ds.length cap7, .int .i64 sd, .slice bo7 zd.length bc7] 28))
  have M0b_32 := M0b_25.below ((Below.refl _ _).alloc (Nat.le_refl _) (.cells #[.bool vb, .slice ao7 ds.length cap7, .int .i64 sd, .slice bo7 zd.length bc7] 28))
  have W0_33 := W0_26.grown (World.grownBy_alloc _ (.cells #[.bool vb, .slice ao7 ds.length cap7, .int .i64 sd, .slice bo7 zd.length bc7] 28) none) (by simp)
  have MX_34 := MX_27.below ((Below.refl _ _).alloc (Nat.le_refl _) (.cells #[.bool vb, .slice ao7 ds.length cap7, .int .i64 sd, .slice bo7 zd.length bc7] 28))
  have X0_35 := X0_28.grown (World.grownBy_alloc _ (.cells #[.bool vb, .slice ao7 ds.length cap7, .int .i64 sd, .slice bo7 zd.length bc7] 28) none) (by simp)
  have MGa_36 := MGa_0.below ((Below.refl _ _).alloc (Nat.le_refl _) (.cells #[.bool vb, .slice ao7 ds.length cap7, .int .i64 sd, .slice bo7 zd.length bc7] 28))
  have MGb_37 := MGb_0.below ((Below.refl _ _).alloc (Nat.le_refl _) (.cells #[.bool vb, .slice ao7 ds.length cap7, .int .i64 sd, .slice bo7 zd.length bc7] 28))
  clear A_22 L_23 M0a_24 M0b_25 W0_26 MX_27 X0_28 MGa_0 MGb_0
  obtain ⟨y0, y1, y2, y3⟩ := G0_0.four
  obtain ⟨v0, v1, v2, v3⟩ := W0_33.four
  go_wp2_with fail
  refine (eqCopy_same ao7 bo7 ao4 bo4 cap7 bc7 cap4 bc4 vb ds zd sd _ MGa_36.row MGb_37.row M0a_31.row M0b_32.row (by omega) (by omega)).mono ?_
  rintro e w8 ⟨rfl, hb8⟩
  clear y0 y1 y2 y3 v0 v1 v2 v3
  have A_38 := A_29.grown (grownBy_of_below hb8 none) (by simp)
  have L_39 := L_30.trans (hb8.mono (by first | omega | (simp; omega)))
  have M0a_40 := M0a_31.below hb8
  have M0b_41 := M0b_32.below hb8
  have W0_42 := W0_33.grown (grownBy_of_below hb8 none) (by simp)
  have MX_43 := MX_34.below hb8
  have X0_44 := X0_35.grown (grownBy_of_below hb8 none) (by simp)
  have MGa_45 := MGa_36.below hb8
  have MGb_46 := MGb_37.below hb8
  have G0_47 := G0_0.grown (grownBy_of_below hb8 none) (by simp)
  clear A_29 L_30 M0a_31 M0b_32 W0_33 MX_34 X0_35 MGa_36 MGb_37 G0_0
  have zw8 : w7.heap.size < w8.heap.size := by have := hb8.size; simp at this; omega
  clear hb8
  obtain ⟨g0, g1⟩ := A_38.two
  obtain ⟨x0, x1⟩ := X0_44.two
  have HMX := hide1 MX_43
  have HL := hide1 L_39
  have HA := hide1 A_38
  have HX := hide1 X0_44
  go_wp2_with fail
  go_region_held3 (fun w' => w'.cell? ⟨w.heap.size, 0, none⟩ = some (.int .i64 s) ∧ w'.cell? ⟨w.heap.size, 1, none⟩ = some (.slice ao zs.length cap) ∧ w'.cell? ⟨w5.heap.size, 0, none⟩ = some (.int .i64 s) ∧ w'.cell? ⟨w5.heap.size, 1, none⟩ = some (.slice (some ⟨g5, 0, none⟩) zs.length zs.length))
    (first | (refine ⟨?_, ?_, ?_, ?_⟩ <;> assumption) | (go_keep; done))
    (first | (go_at_call 11; refine (toWindow_any ao cap zs s _ (HR.out.below HL.out.drew) (by omega)).mono ?_; rintro e w9 ⟨g9, rfl, m9, hb9⟩; obtain ⟨_, _⟩ := (HA.out.below (((Below.refl _ _).drew).trans hb9)).two; obtain ⟨_, _⟩ := (HX.out.below (((Below.refl _ _).drew).trans hb9)).two)
           | (go_at_call 14; refine (eqWindow_same (some ⟨g5, 0, none⟩) (some ⟨g9, 0, none⟩) _ _ zs s _ (HMX.out.row.below (((Below.refl _ _).drew).trans hb9)) m9.row (by omega)).mono ?_; rintro e w10 ⟨rfl, hb10⟩; obtain ⟨_, _⟩ := (HA.out.below (((Below.refl _ _).drew).trans (hb9.trans (hb10.mono (by have := hb9.size; simpa using this))))).two; obtain ⟨_, _⟩ := (HX.out.below (((Below.refl _ _).drew).trans (hb9.trans (hb10.mono (by have := hb9.size; simpa using this))))).two))
  clear g0 g1 x0 x1
  have hb910 : Below w8.heap.size w8 w10 := ((Below.refl _ _).drew).trans (hb9.trans (hb10.mono (by have := hb9.size; simpa using this)))
  clear hb9 hb10 m9 HMX HL HA HX
  have A_48 := A_38.grown (grownBy_of_below hb910 none) (by simp)
  have L_49 := L_39.trans (hb910.mono (by first | omega | (simp; omega)))
  have M0a_50 := M0a_40.below hb910
  have M0b_51 := M0b_41.below hb910
  have W0_52 := W0_42.grown (grownBy_of_below hb910 none) (by simp)
  have MX_53 := MX_43.below hb910
  have X0_54 := X0_44.grown (grownBy_of_below hb910 none) (by simp)
  have MGa_55 := MGa_45.below hb910
  have MGb_56 := MGb_46.below hb910
  have G0_57 := G0_47.grown (grownBy_of_below hb910 none) (by simp)
  clear A_38 L_39 M0a_40 M0b_41 W0_42 MX_43 X0_44 MGa_45 MGb_46 G0_47
  have zw10 : w8.heap.size ≤ w10.heap.size := hb910.size
  clear hb910
  obtain ⟨x0, x1⟩ := X0_54.two
  go_wp2_with fail
  refine (markWindow_any _ (some ⟨g5, 0, none⟩) zs.length zs s 1 _ MX_53 (by omega) (by omega)).mono ?_
  rintro e w13 ⟨rfl, mk13, hg13⟩
  have hg13' : w10.grownBy w13 (some g5) := hg13
  clear x0 x1
  have A_58 := A_48.grown hg13' (by first | (simp; done) | (simp; omega))
  have L_59 := L_49.grown hg13' (by omega) (by intro k e; simp at e; omega)
  have M0a_60 := M0a_50.grown hg13' (by intro k e; simp at e; subst e; intro h; have := M0n _ h; omega)
  have M0b_61 := M0b_51.grown hg13' (by intro k e; simp at e; subst e; intro h; have := M0m _ h; omega)
  have W0_62 := W0_52.grown hg13' (by first | (simp; done) | (simp; omega))
  have MGa_63 := MGa_55.grown hg13' (by intro k e; simp at e; subst e; intro h; have := MGn _ h; omega)
  have MGb_64 := MGb_56.grown hg13' (by intro k e; simp at e; subst e; intro h; have := MGm _ h; omega)
  have G0_65 := G0_57.grown hg13' (by first | (simp; done) | (simp; omega))
  clear A_48 L_49 M0a_50 M0b_51 W0_52 MX_53 X0_54 MGa_55 MGb_56 G0_57
  have zw13 : w10.heap.size ≤ w13.heap.size := hg13.size
  clear hg13 hg13' mk13
  obtain ⟨y0, y1, y2, y3⟩ := G0_65.four
  obtain ⟨v0, v1, v2, v3⟩ := W0_62.four
  go_wp2_with fail
  refine (eqCopy_same ao7 bo7 ao4 bo4 cap7 bc7 cap4 bc4 vb ds zd sd _ MGa_63.row MGb_64.row M0a_60.row M0b_61.row (by omega) (by omega)).mono ?_
  rintro e w15 ⟨rfl, hb15⟩
  clear y0 y1 y2 y3 v0 v1 v2 v3
  have A_66 := A_58.grown (grownBy_of_below hb15 none) (by simp)
  have L_67 := L_59.trans (hb15.mono (by first | omega | (simp; omega)))
  have M0a_68 := M0a_60.below hb15
  have M0b_69 := M0b_61.below hb15
  have W0_70 := W0_62.grown (grownBy_of_below hb15 none) (by simp)
  have MGa_71 := MGa_63.below hb15
  have MGb_72 := MGb_64.below hb15
  have G0_73 := G0_65.grown (grownBy_of_below hb15 none) (by simp)
  clear A_58 L_59 M0a_60 M0b_61 W0_62 MGa_63 MGb_64 G0_65
  have zw15 : w13.heap.size ≤ w15.heap.size := hb15.size
  clear hb15
  obtain ⟨y0, y1, y2, y3⟩ := G0_73.four
  go_wp2_with fail
  refine (markCopy_any _ ao7 bo7 cap7 bc7 vb ds zd sd 1 _ MGa_71 MGb_72 hap7 (by omega) (by omega) (by omega)).mono ?_
  rintro e w16 ⟨rfl, mg16, mh16, wm, hg16, hg17⟩
  clear y0 y1 y2 y3
  have zshg16 := hg16.size
  have A_74 := A_66.grown hg16 (by intro e; have := MGn _ e.symm; omega)
  have L_75 := L_67.grown hg16 (by omega) (by intro k e; have := MGn _ e; omega)
  have M0a_76 := M0a_68.grown hg16 (by intro k e h; have := MGn _ e; have := M0n _ h; omega)
  have M0b_77 := M0b_69.grown hg16 (by intro k e h; have := MGn _ e; have := M0m _ h; omega)
  have W0_78 := W0_70.grown hg16 (by intro e; have := MGn _ e.symm; omega)
  have G0_79 := G0_73.grown hg16 (by intro e; have := MGn _ e.symm; omega)
  clear A_66 L_67 M0a_68 M0b_69 W0_70 MGa_71 MGb_72 G0_73
  have zshg17 := hg17.size
  have A_80 := A_74.grown hg17 (by intro e; have := MGm _ e.symm; omega)
  have L_81 := L_75.grown hg17 (by omega) (by intro k e; have := MGm _ e; omega)
  have M0a_82 := M0a_76.grown hg17 (by intro k e h; have := MGm _ e; have := M0n _ h; omega)
  have M0b_83 := M0b_77.grown hg17 (by intro k e h; have := MGm _ e; have := M0m _ h; omega)
  have W0_84 := W0_78.grown hg17 (by intro e; have := MGm _ e.symm; omega)
  have G0_85 := G0_79.grown hg17 (by intro e; have := MGm _ e.symm; omega)
  clear A_74 L_75 M0a_76 M0b_77 W0_78 G0_79
  have zw16 : w15.heap.size ≤ w16.heap.size := by omega
  clear hg16 hg17 zshg16 zshg17
  obtain ⟨y0, y1, y2, y3⟩ := G0_85.four
  go_wp2_with fail
  refine (heldCopy_any ao7 bo7 cap7 bc7 ds.length zd.length vb sd 1 _ mg16.row mh16.row (by omega) (by omega) (by omega)).mono ?_
  rintro e w17 ⟨rfl, hb17⟩
  clear y0 y1 y2 y3
  clear G0_85
  have A_86 := A_80.grown (grownBy_of_below hb17 none) (by simp)
  have L_87 := L_81.trans (hb17.mono (by first | omega | (simp; omega)))
  have M0a_88 := M0a_82.below hb17
  have M0b_89 := M0b_83.below hb17
  have W0_90 := W0_84.grown (grownBy_of_below hb17 none) (by simp)
  clear A_80 L_81 M0a_82 M0b_83 W0_84
  have zw17 : w16.heap.size ≤ w17.heap.size := hb17.size
  clear hb17
  clear mg16 mh16
  obtain ⟨g0, g1⟩ := A_86.two
  go_wp2_with fail
  refine (toWindow_any ao cap zs s _ (HR.out.below L_87) (by omega)).mono ?_
  rintro e w18 ⟨g18, rfl, ML_0, hb18⟩
  clear g0 g1
  have A_91 := A_86.grown (grownBy_of_below hb18 none) (by simp)
  have L_92 := L_87.trans (hb18.mono (by first | omega | (simp; omega)))
  have M0a_93 := M0a_88.below hb18
  have M0b_94 := M0b_89.below hb18
  have W0_95 := W0_90.grown (grownBy_of_below hb18 none) (by simp)
  clear A_86 L_87 M0a_88 M0b_89 W0_90
  have zw18 : w17.heap.size ≤ w18.heap.size := hb18.size
  clear hb18
  go_wp2_with fail
  refine (icopy_any s d m zs (some ⟨g18, 0, none⟩) zs.length _ ML_0.arg (by omega)).mono ?_
  rintro e w20 ⟨⟨ao20, cap20, bo20, bc20, rfl, MHa_0, MHb_0, hap20⟩, hb20⟩
  rw [HVB.out, HDS.out] at MHa_0
  rw [HVB.out, HZD.out] at MHb_0
  rw [HVB.out, HDS.out, HZD.out, HSD.out]
  have A_96 := A_91.grown (grownBy_of_below hb20 none) (by simp)
  have L_97 := L_92.trans (hb20.mono (by first | omega | (simp; omega)))
  have M0a_98 := M0a_93.below hb20
  have M0b_99 := M0b_94.below hb20
  have W0_100 := W0_95.grown (grownBy_of_below hb20 none) (by simp)
  clear A_91 L_92 M0a_93 M0b_94 W0_95 ML_0
  have zw20 : w18.heap.size ≤ w20.heap.size := hb20.size
  clear hb20
  have H0_0 := cpy_new w20 vb (.slice ao20 ds.length cap20) sd (.slice bo20 zd.length bc20) 28
  have A_101 := A_96.grown (World.grownBy_alloc _ (.cells #[.bool vb, .slice ao20 ds.length cap20, .int .i64 sd, .slice bo20 zd.length bc20] 28) none) (by simp)
  have L_102 := L_97.alloc (by first | omega | (simp; omega)) (.cells #[.bool vb, .slice ao20 ds.length cap20, .int .i64 sd, .slice bo20 zd.length bc20] 28)
  have M0a_103 := M0a_98.below ((Below.refl _ _).alloc (Nat.le_refl _) (.cells #[.bool vb, .slice ao20 ds.length cap20, .int .i64 sd, .slice bo20 zd.length bc20] 28))
  have M0b_104 := M0b_99.below ((Below.refl _ _).alloc (Nat.le_refl _) (.cells #[.bool vb, .slice ao20 ds.length cap20, .int .i64 sd, .slice bo20 zd.length bc20] 28))
  have W0_105 := W0_100.grown (World.grownBy_alloc _ (.cells #[.bool vb, .slice ao20 ds.length cap20, .int .i64 sd, .slice bo20 zd.length bc20] 28) none) (by simp)
  have MHa_106 := MHa_0.below ((Below.refl _ _).alloc (Nat.le_refl _) (.cells #[.bool vb, .slice ao20 ds.length cap20, .int .i64 sd, .slice bo20 zd.length bc20] 28))
  have MHb_107 := MHb_0.below ((Below.refl _ _).alloc (Nat.le_refl _) (.cells #[.bool vb, .slice ao20 ds.length cap20, .int .i64 sd, .slice bo20 zd.length bc20] 28))
  clear A_96 L_97 M0a_98 M0b_99 W0_100 MHa_0 MHb_0
  obtain ⟨y0, y1, y2, y3⟩ := H0_0.four
  obtain ⟨v0, v1, v2, v3⟩ := W0_105.four
  go_wp2_with fail
  refine (eqCopy_same ao20 bo20 ao4 bo4 cap20 bc20 cap4 bc4 vb ds zd sd _ MHa_106.row MHb_107.row M0a_103.row M0b_104.row (by omega) (by omega)).mono ?_
  rintro e w21 ⟨rfl, hb21⟩
  clear y0 y1 y2 y3 v0 v1 v2 v3
  have A_108 := A_101.grown (grownBy_of_below hb21 none) (by simp)
  have L_109 := L_102.trans (hb21.mono (by first | omega | (simp; omega)))
  have M0a_110 := M0a_103.below hb21
  have M0b_111 := M0b_104.below hb21
  have W0_112 := W0_105.grown (grownBy_of_below hb21 none) (by simp)
  have MHa_113 := MHa_106.below hb21
  have MHb_114 := MHb_107.below hb21
  have H0_115 := H0_0.grown (grownBy_of_below hb21 none) (by simp)
  clear A_101 L_102 M0a_103 M0b_104 W0_105 MHa_106 MHb_107 H0_0
  go_wp2_with fail
  go_ret
  exact ⟨rfl, L_109⟩
end Go.Proofs.Ytjknaigdlkpiaaa
