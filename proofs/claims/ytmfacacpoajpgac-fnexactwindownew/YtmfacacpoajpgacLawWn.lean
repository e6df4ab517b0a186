import Derived.Test.YtmfacacpoajpgacWinN
namespace Go.Proofs.Ytmfacacpoajpgac
open Go.RowKit
attribute [local go_sem ↓] Go.wp_at_zero Go.wp_at_succ
set_option linter.unusedVariables false

theorem law_wnew_big1 (co : Option Addr) (m cc : Nat) (s : Int) (w : World) (hbig : 1048576 < m) (hm : m ≤ 9223372036854775807) :
    Calls Try.prog 7 #[.int .i64 s, .slice co m cc] w fun e w' => e = .returned (.bool true) ∧ Below w.heap.size w w' := by
  go_enter Try.func7, Try.ntmps7
  go_wp2_with fail
  go_ret
  exact ⟨rfl, Below.refl _ _⟩

set_option maxRecDepth 100000 in
set_option maxHeartbeats 6400000 in
theorem law_wnew (co : Option Addr) (cc : Nat) (cs : List Int) (s : Int) (w : World) (hrc : Row w co cs) (hm : cs.length ≤ 1048576) :
    Calls Try.prog 7 #[.int .i64 s, .slice co cs.length cc] w fun e w' => e = .returned (.bool true) ∧ Below w.heap.size w w' := by
  have L_0 : Below w.heap.size w w := Below.refl _ _
  have HC := hide1 hrc
  clear hrc
  go_enter Try.func7, Try.ntmps7
  go_wp2_with fail
  refine (toByteS_any co cc cs _ (HC.out.below L_0) (by omega)).mono ?_
  rintro e w3 ⟨rfl, ow3, hb3⟩
  have MC_0 := (OwnsB.mine ow3)
  clear ow3
  have L_1 := L_0.trans (hb3.mono (by first | omega | (simp; omega)))
  clear L_0
  have zw3 : w.heap.size ≤ w3.heap.size := hb3.size
  clear hb3
  go_wp2_with fail
  refine (snew_any s cs (some ⟨w.heap.size, 0, none⟩) cs.length _ MC_0.arg (by omega)).mono ?_
  rintro e w4 ⟨⟨ao4, cap4, rfl, O0⟩, hb4⟩
  have M0_0 := O0.mine
  clear O0
  have M0z : ∀ ad, ao4 = some ad → ad.block < w4.heap.size := fun ad e => (M0_0.lies ad e).2.1
  have L_2 := L_1.trans (hb4.mono (by first | omega | (simp; omega)))
  clear L_1 MC_0
  have zw4 : w3.heap.size ≤ w4.heap.size := hb4.size
  clear hb4
  have hzl : (if vsz s = true then lastN s.toNat cs else []).length ≤ 4194304 := by split; rw [lastN_len]; omega; simp
  generalize hzd : (if vsz s = true then lastN s.toNat cs else []) = zd at *
  generalize hsd : (if vsz s = true then s else 0) = sd at *
  have HZD := hide1 hzd
  have HSD := hide1 hsd
  clear hzd hsd
  have W0_0 := win_new w4 sd (.slice ao4 zd.length cap4) 41
  have L_3 := L_2.alloc (by first | omega | (simp; omega)) (.cells #[.int .i64 sd, .slice ao4 zd.length cap4] 41)
  have M0_4 := M0_0.below ((Below.refl _ _).alloc (Nat.le_refl _) (.cells #[.int .i64 sd, .slice ao4 zd.length cap4] 41))
  clear L_2 M0_0
  go_wp2_with fail
  refine (toByteS_any co cc cs _ (HC.out.below L_3) (by omega)).mono ?_
  rintro e w6 ⟨rfl, ow6, hb6⟩
  have MY_0 := (OwnsB.mine ow6)
  clear ow6
  simp only [World.size_alloc] at MY_0
  have MYl : w4.heap.size + 1 < w6.heap.size := by have := (MY_0.lies _ rfl).2.1; exact this
  have L_5 := L_3.trans (hb6.mono (by first | omega | (simp; omega)))
  have M0_6 := M0_4.below hb6
  have W0_7 := W0_0.grown (grownBy_of_below hb6 none) (by simp)
  clear L_3 M0_4 W0_0
  have zw6 : w4.heap.size < w6.heap.size := by have := hb6.size; simp at this; omega
  clear hb6
  simp only [World.size_alloc]
  go_wp2_with fail
  refine (inew_any s cs (some ⟨w4.heap.size + 1, 0, none⟩) cs.length _ MY_0.arg).mono ?_
  rintro e w7 ⟨⟨ao7, cap7, rfl, O7⟩, hb7⟩
  have MG_0 := O7.mine
  clear O7
  rw [HZD.out] at MG_0
  rw [HZD.out, HSD.out]
  have MGz : ∀ a2, ao7 = some a2 → w6.heap.size ≤ a2.block ∧ a2.block < w7.heap.size := fun a2 e => by have := MG_0.lies a2 e; omega
  have MGn : ∀ k, blk ao7 = some k → w6.heap.size ≤ k ∧ k < w7.heap.size := by intro k e; cases ao7 with | none => cases e | some a2 => (have := MGz a2 rfl; simp [blk] at e; omega)
  have M0n : ∀ k, blk ao4 = some k → k < w4.heap.size := by intro k e; cases ao4 with | none => cases e | some a2 => (have := M0z a2 rfl; simp [blk] at e; omega)
  have L_8 := L_5.trans (hb7.mono (by first | omega | (simp; omega)))
  have M0_9 := M0_6.below hb7
  have W0_10 := W0_7.grown (grownBy_of_below hb7 none) (by simp)
  have MY_11 := MY_0.below hb7
  clear L_5 M0_6 W0_7 MY_0
  have zw7 : w6.heap.size ≤ w7.heap.size := hb7.size
  clear hb7
  have G0_0 := win_new w7 sd (.slice ao7 zd.length cap7) 41
  have L_12 := L_8.alloc (by first | omega | (simp; omega)) (.cells #[.int .i64 sd, .slice ao7 zd.length cap7] 41)
  have M0_13 := M0_9.below ((Below.refl _ _).alloc (Nat.le_refl _) (.cells #[.int .i64 sd, .slice ao7 zd.length cap7] 41))
  have W0_14 := W0_10.grown (World.grownBy_alloc _ (.cells #[.int .i64 sd, .slice ao7 zd.length cap7] 41) none) (by simp)
  have MY_15 := MY_11.below ((Below.refl _ _).alloc (Nat.le_refl _) (.cells #[.int .i64 sd, .slice ao7 zd.length cap7] 41))
  have MG_16 := MG_0.below ((Below.refl _ _).alloc (Nat.le_refl _) (.cells #[.int .i64 sd, .slice ao7 zd.length cap7] 41))
  clear L_8 M0_9 W0_10 MY_11 MG_0
  obtain ⟨y0, y1⟩ := G0_0.two
  obtain ⟨v0, v1⟩ := W0_14.two
  go_wp2_with fail
  refine (eqWindow_same ao7 ao4 cap7 cap4 zd sd _ MG_16.row M0_13.row (by omega)).mono ?_
  rintro e w8 ⟨rfl, hb8⟩
  clear y0 y1 v0 v1
  have L_17 := L_12.trans (hb8.mono (by first | omega | (simp; omega)))
  have M0_18 := M0_13.below hb8
  have W0_19 := W0_14.grown (grownBy_of_below hb8 none) (by simp)
  have MY_20 := MY_15.below hb8
  have MG_21 := MG_16.below hb8
  have G0_22 := G0_0.grown (grownBy_of_below hb8 none) (by simp)
  clear L_12 M0_13 W0_14 MY_15 MG_16 G0_0
  have zw8 : w7.heap.size < w8.heap.size := by have := hb8.size; simp at this; omega
  clear hb8
  go_wp2_with fail
  refine (toByteS_any co cc cs _ (HC.out.below L_17) (by omega)).mono ?_
  rintro e w11 ⟨rfl, ow11, hb11⟩
  have MZ_0 := (OwnsB.mine ow11)
  clear ow11
  have L_23 := L_17.trans (hb11.mono (by first | omega | (simp; omega)))
  have M0_24 := M0_18.below hb11
  have W0_25 := W0_19.grown (grownBy_of_below hb11 none) (by simp)
  have MY_26 := MY_20.below hb11
  have MG_27 := MG_21.below hb11
  have G0_28 := G0_22.grown (grownBy_of_below hb11 none) (by simp)
  clear L_17 M0_18 W0_19 MY_20 MG_21 G0_22
  have zw11 : w8.heap.size ≤ w11.heap.size := hb11.size
  clear hb11
  go_wp2_with fail
  refine (eqByteS_any _ _ _ _ cs cs _ MY_26.row MZ_0.row (by omega)).mono ?_
  rintro e w12 ⟨rfl, q12, e12⟩
  have hb12 : Below w11.heap.size w11 w12 := by rw [e12]; exact below_drewN' _ _ _
  clear e12
  rw [decide_eq_true rfl]
  have L_29 := L_23.trans (hb12.mono (by first | omega | (simp; omega)))
  have M0_30 := M0_24.below hb12
  have W0_31 := W0_25.grown (grownBy_of_below hb12 none) (by simp)
  have MY_32 := MY_26.below hb12
  have MG_33 := MG_27.below hb12
  have G0_34 := G0_28.grown (grownBy_of_below hb12 none) (by simp)
  clear L_23 M0_24 W0_25 MY_26 MG_27 G0_28 MZ_0
  have zw12 : w11.heap.size ≤ w12.heap.size := hb12.size
  clear hb12
  go_wp2_with fail
  refine (markByteS_any (some ⟨w4.heap.size + 1, 0, none⟩) cs.length cs 1 _ MY_32.row MY_32.free (by omega) (by omega)).mono ?_
  rintro e w14 ⟨rfl, mk14, mo14, hg14, hs14⟩
  have hg14' : w12.grownBy w14 (some (w4.heap.size + 1)) := hg14
  have L_35 := L_29.grown hg14' (by omega) (by intro k e; simp at e; omega)
  have M0_36 := M0_30.grown hg14' (by intro k e; simp at e; subst e; intro h; have := M0n _ h; omega)
  have W0_37 := W0_31.grown hg14' (by first | (simp; done) | (simp; omega))
  have MG_38 := MG_33.grown hg14' (by intro k e; simp at e; subst e; intro h; have := MGn _ h; omega)
  have G0_39 := G0_34.grown hg14' (by first | (simp; done) | (simp; omega))
  clear L_29 M0_30 W0_31 MY_32 MG_33 G0_34
  have zw14 : w12.heap.size ≤ w14.heap.size := hg14.size
  clear hg14 hg14' mk14 mo14 hs14
  obtain ⟨y0, y1⟩ := G0_39.two
  obtain ⟨v0, v1⟩ := W0_37.two
  go_wp2_with fail
  refine (eqWindow_same ao7 ao4 cap7 cap4 zd sd _ MG_38.row M0_36.row (by omega)).mono ?_
  rintro e w15 ⟨rfl, hb15⟩
  clear y0 y1 v0 v1
  have L_40 := L_35.trans (hb15.mono (by first | omega | (simp; omega)))
  have M0_41 := M0_36.below hb15
  have W0_42 := W0_37.grown (grownBy_of_below hb15 none) (by simp)
  have MG_43 := MG_38.below hb15
  have G0_44 := G0_39.grown (grownBy_of_below hb15 none) (by simp)
  clear L_35 M0_36 W0_37 MG_38 G0_39
  have zw15 : w14.heap.size ≤ w15.heap.size := hb15.size
  clear hb15
  obtain ⟨y0, y1⟩ := G0_44.two
  go_wp2_with fail
  refine (markWindow_any _ ao7 cap7 zd sd 1 _ MG_43 (by omega) (by omega)).mono ?_
  rintro e w16 ⟨rfl, mg16, hg16⟩
  clear y0 y1
  have L_45 := L_40.grown hg16 (by omega) (by intro k e; have := MGn _ e; omega)
  have M0_46 := M0_41.grown hg16 (by intro k e h; have := MGn _ e; have := M0n _ h; omega)
  have W0_47 := W0_42.grown hg16 (by intro e; have := MGn _ e.symm; omega)
  have G0_48 := G0_44.grown hg16 (by intro e; have := MGn _ e.symm; omega)
  clear L_40 M0_41 W0_42 MG_43 G0_44
  have zw16 : w15.heap.size ≤ w16.heap.size := hg16.size
  clear hg16
  obtain ⟨y0, y1⟩ := G0_48.two
  go_wp2_with fail
  refine (heldWindow_any ao7 cap7 zd.length sd 1 _ mg16.row (by omega) (by omega)).mono ?_
  rintro e w17 ⟨rfl, hb17⟩
  clear y0 y1
  clear G0_48
  have L_49 := L_45.trans (hb17.mono (by first | omega | (simp; omega)))
  have M0_50 := M0_46.below hb17
  have W0_51 := W0_47.grown (grownBy_of_below hb17 none) (by simp)
  clear L_45 M0_46 W0_47
  have zw17 : w16.heap.size ≤ w17.heap.size := hb17.size
  clear hb17
  clear mg16
  go_wp2_with fail
  refine (toByteS_any co cc cs _ (HC.out.below L_49) (by omega)).mono ?_
  rintro e w19 ⟨rfl, ow19, hb19⟩
  have MN_0 := (OwnsB.mine ow19)
  clear ow19
  have L_52 := L_49.trans (hb19.mono (by first | omega | (simp; omega)))
  have M0_53 := M0_50.below hb19
  have W0_54 := W0_51.grown (grownBy_of_below hb19 none) (by simp)
  clear L_49 M0_50 W0_51
  have zw19 : w17.heap.size ≤ w19.heap.size := hb19.size
  clear hb19
  go_wp2_with fail
  refine (inew_any s cs (some ⟨w17.heap.size, 0, none⟩) cs.length _ MN_0.arg).mono ?_
  rintro e w20 ⟨⟨ao20, cap20, rfl, O20⟩, hb20⟩
  have MH_0 := O20.mine
  clear O20
  rw [HZD.out] at MH_0
  rw [HZD.out, HSD.out]
  have L_55 := L_52.trans (hb20.mono (by first | omega | (simp; omega)))
  have M0_56 := M0_53.below hb20
  have W0_57 := W0_54.grown (grownBy_of_below hb20 none) (by simp)
  clear L_52 M0_53 W0_54 MN_0
  have zw20 : w19.heap.size ≤ w20.heap.size := hb20.size
  clear hb20
  have H0_0 := win_new w20 sd (.slice ao20 zd.length cap20) 41
  have L_58 := L_55.alloc (by first | omega | (simp; omega)) (.cells #[.int .i64 sd, .slice ao20 zd.length cap20] 41)
  have M0_59 := M0_56.below ((Below.refl _ _).alloc (Nat.le_refl _) (.cells #[.int .i64 sd, .slice ao20 zd.length cap20] 41))
  have W0_60 := W0_57.grown (World.grownBy_alloc _ (.cells #[.int .i64 sd, .slice ao20 zd.length cap20] 41) none) (by simp)
  have MH_61 := MH_0.below ((Below.refl _ _).alloc (Nat.le_refl _) (.cells #[.int .i64 sd, .slice ao20 zd.length cap20] 41))
  clear L_55 M0_56 W0_57 MH_0
  obtain ⟨y0, y1⟩ := H0_0.two
  obtain ⟨v0, v1⟩ := W0_60.two
  go_wp2_with fail
  refine (eqWindow_same ao20 ao4 cap20 cap4 zd sd _ MH_61.row M0_59.row (by omega)).mono ?_
  rintro e w21 ⟨rfl, hb21⟩
  clear y0 y1 v0 v1
  have L_62 := L_58.trans (hb21.mono (by first | omega | (simp; omega)))
  have M0_63 := M0_59.below hb21
  have W0_64 := W0_60.grown (grownBy_of_below hb21 none) (by simp)
  have MH_65 := MH_61.below hb21
  have H0_66 := H0_0.grown (grownBy_of_below hb21 none) (by simp)
  clear L_58 M0_59 W0_60 MH_61 H0_0
  go_wp2_with fail
  go_ret
  exact ⟨rfl, L_62⟩
end Go.Proofs.Ytmfacacpoajpgac
