import Derived.Test.YtmfacacpoajpgabTakeS
import Derived.Test.YtmfacacpoajpgabLawT
namespace Go.Proofs.Ytmfacacpoajpgab
open Go.RowKit
attribute [local go_sem ↓] Go.wp_at_zero Go.wp_at_succ

theorem law_take_big (ao : Option Addr) (m cap : Nat) (a u n : Int) (w : World) (hn : m ≤ 9223372036854775807) (hbig : 1048576 < m) :
    Calls Try.prog 4 #[.agg #[.slice ao m cap, .int .i64 a, .int .i64 u], .int .i64 n] w fun e w' => e = .returned (.bool true) ∧ Below w.heap.size w w' := by
  go_enter Try.func4, Try.ntmps4
  go_wp2_with fail
  refine (szBits_any ao m cap a u 1048576 _ hn (by decide) (by decide)).mono ?_
  rintro e w1 ⟨rfl, hb1⟩
  rw [if_pos (by omega)]
  go_wp2_with fail
  go_ret
  exact ⟨rfl, ((Below.refl _ _).alloc (Nat.le_refl _) _).trans (hb1.mono (by simp))⟩

set_option maxRecDepth 100000 in
set_option maxHeartbeats 6400000 in
theorem law_take (ao : Option Addr) (cap : Nat) (zs : List Int) (a u n : Int) (w : World) (hr : Row w ao zs) (hz : Octets zs) (hn : zs.length ≤ 1048576) :
    Calls Try.prog 4 #[.agg #[.slice ao zs.length cap, .int .i64 a, .int .i64 u], .int .i64 n] w fun e w' => e = .returned (.bool true) ∧ Below w.heap.size w w' := by
  have hal := tkZ_len zs a u n
  have A_0 := src_new w (.slice ao zs.length cap) a u 24
  have L_0 : Below w.heap.size w (w.alloc (.cells #[.slice ao zs.length cap, .int .i64 a, .int .i64 u] 24)) := (Below.refl _ _).alloc (Nat.le_refl _) _
  have HR := hide1 hr
  have HO := hide1 hz
  clear hr hz
  go_enter Try.func4, Try.ntmps4
  go_wp2_with fail
  refine (szBits_any ao zs.length cap a u 1048576 _ (by omega) (by decide) (by decide)).mono ?_
  rintro e w1 ⟨rfl, hb1⟩
  rw [if_neg (by omega)]
  have z0 : w.heap.size < (w.alloc (.cells #[.slice ao zs.length cap, .int .i64 a, .int .i64 u] 24)).heap.size := by simp
  have A_1 := A_0.grown (grownBy_of_below hb1 none) (by simp)
  have L_2 := L_0.trans (hb1.mono (by first | omega | (simp; omega)))
  clear A_0 L_0
  have z1 : w.heap.size < w1.heap.size := World.block_lt_of_cell? w1 _ A_1.1
  clear hb1 z0
  obtain ⟨g0, g1, g2⟩ := A_1.three
  go_wp2_with fail
  refine (toBits_any ao cap zs a u _ (HR.out.below L_2) (by omega)).mono ?_
  rintro e w2 ⟨gx, rfl, mx, hb2⟩
  clear g0 g1 g2
  have A_3 := A_1.grown (grownBy_of_below hb2 none) (by simp)
  have L_4 := L_2.trans (hb2.mono (by first | omega | (simp; omega)))
  clear A_1 L_2
  have zw2 : w1.heap.size ≤ w2.heap.size := hb2.size
  clear hb2
  go_wp2_with fail
  refine (sbitsTake_any (some ⟨gx, 0, none⟩) zs.length zs a u n _ mx.row HO.out (Nat.le_refl _) (fun e => by cases e)).mono ?_
  rintro e w4 ⟨⟨ao4, cap4, rfl, M0_0⟩, hb4⟩
  have M0z : ∀ ad, ao4 = some ad → ad.block < w4.heap.size := fun ad e => (M0_0.lies ad e).2.1
  have A_5 := A_3.grown (grownBy_of_below hb4 none) (by simp)
  have L_6 := L_4.trans (hb4.mono (by first | omega | (simp; omega)))
  clear A_3 L_4
  have zw4 : w2.heap.size ≤ w4.heap.size := hb4.size
  clear hb4
  clear mx
  generalize hokd : tkB zs a u n = okd at *
  generalize hvd : tkV zs a u n = vd at *
  generalize hzd : tkZ zs a u n = zd at *
  generalize had : tkA zs a u n = ad at *
  generalize hud : tkU zs a u n = ud at *
  have Hokd := hide1 hokd
  have Hvd := hide1 hvd
  have Hzd := hide1 hzd
  have Had := hide1 had
  have Hud := hide1 hud
  clear hokd hvd hzd had hud
  have W0_0 := five_new w4 (.bool okd) (.int .u64 vd) (.slice ao4 zd.length cap4) (.int .i64 ad) (.int .i64 ud) 37
  have A_7 := A_5.grown (World.grownBy_alloc _ (.cells #[.bool okd, .int .u64 vd, .slice ao4 zd.length cap4, .int .i64 ad, .int .i64 ud] 37) none) (by simp)
  have L_8 := L_6.alloc (by first | omega | (simp; omega)) (.cells #[.bool okd, .int .u64 vd, .slice ao4 zd.length cap4, .int .i64 ad, .int .i64 ud] 37)
  have M0_9 := M0_0.below ((Below.refl _ _).alloc (Nat.le_refl _) (.cells #[.bool okd, .int .u64 vd, .slice ao4 zd.length cap4, .int .i64 ad, .int .i64 ud] 37))
  clear A_5 L_6 M0_0
  obtain ⟨g0, g1, g2⟩ := A_7.three
  go_wp2_with fail
  refine (toBits_any ao cap zs a u _ (HR.out.below L_8) (by omega)).mono ?_
  rintro e w5 ⟨g5, rfl, MX_0, hb5⟩
  clear g0 g1 g2
  have MXl : w4.heap.size < g5 ∧ g5 < w5.heap.size := by have := MX_0.lies _ rfl; simp at this; omega
  have A_10 := A_7.grown (grownBy_of_below hb5 none) (by simp)
  have L_11 := L_8.trans (hb5.mono (by first | omega | (simp; omega)))
  have M0_12 := M0_9.below hb5
  have W0_13 := W0_0.grown (grownBy_of_below hb5 none) (by simp)
  clear A_7 L_8 M0_9 W0_0
  have zw5 : w4.heap.size < w5.heap.size := by have := hb5.size; simp at this; omega
  clear hb5
  have X0_0 := src_new w5 (.slice (some ⟨g5, 0, none⟩) zs.length zs.length) a u 26
  have A_14 := A_10.grown (World.grownBy_alloc _ (.cells #[.slice (some ⟨g5, 0, none⟩) zs.length zs.length, .int .i64 a, .int .i64 u] 26) none) (by simp)
  have L_15 := L_11.alloc (by first | omega | (simp; omega)) (.cells #[.slice (some ⟨g5, 0, none⟩) zs.length zs.length, .int .i64 a, .int .i64 u] 26)
  have M0_16 := M0_12.below ((Below.refl _ _).alloc (Nat.le_refl _) (.cells #[.slice (some ⟨g5, 0, none⟩) zs.length zs.length, .int .i64 a, .int .i64 u] 26))
  have W0_17 := W0_13.grown (World.grownBy_alloc _ (.cells #[.slice (some ⟨g5, 0, none⟩) zs.length zs.length, .int .i64 a, .int .i64 u] 26) none) (by simp)
  have MX_18 := MX_0.below ((Below.refl _ _).alloc (Nat.le_refl _) (.cells #[.slice (some ⟨g5, 0, none⟩) zs.length zs.length, .int .i64 a, .int .i64 u] 26))
  clear A_10 L_11 M0_12 W0_13 MX_0
  obtain ⟨x0, x1, x2⟩ := X0_0.three
  go_wp2_with fail
  refine (bitsTake_any (some ⟨g5, 0, none⟩) zs.length zs a u n _ MX_18.row HO.out (fun e => by cases e) (by omega)).mono ?_
  rintro e w7 ⟨⟨ao7, cap7, rfl, MG_0⟩, hb7⟩
  clear x0 x1 x2
  rw [Hzd.out] at MG_0
  rw [Hokd.out, Hvd.out, Hzd.out, Had.out, Hud.out]
  have MGz : ∀ a2, ao7 = some a2 → w5.heap.size < a2.block ∧ a2.block < w7.heap.size := fun a2 e => by have := MG_0.lies a2 e; simp at this; omega
  have MGn : ∀ k, blk ao7 = some k → w5.heap.size < k ∧ k < w7.heap.size := by intro k e; cases ao7 with | none => cases e | some a2 => (have := MGz a2 rfl; simp [blk] at e; omega)
  have M0n : ∀ k, blk ao4 = some k → k < w4.heap.size := by intro k e; cases ao4 with | none => cases e | some a2 => (have := M0z a2 rfl; simp [blk] at e; omega)
  have A_19 := A_14.grown (grownBy_of_below hb7 none) (by simp)
  have L_20 := L_15.trans (hb7.mono (by first | omega | (simp; omega)))
  have M0_21 := M0_16.below hb7
  have W0_22 := W0_17.grown (grownBy_of_below hb7 none) (by simp)
  have MX_23 := MX_18.below hb7
  have X0_24 := X0_0.grown (grownBy_of_below hb7 none) (by simp)
  clear A_14 L_15 M0_16 W0_17 MX_18 X0_0
  have zw7 : w5.heap.size < w7.heap.size := by have := hb7.size; simp at this; omega
  clear hb7
  have G0_0 := five_new w7 (.bool okd) (.int .u64 vd) (.slice ao7 zd.length cap7) (.int .i64 ad) (.int .i64 ud) 37
  have A_25 := A_19.grown (World.grownBy_alloc _ (.cells #[.bool okd, .int .u64 vd, .slice ao7 zd.length cap7, .int .i64 ad, .int .i64 ud] 37) none) (by simp)
  have L_26 := L_20.alloc (by first | omega | (simp; omega)) (.cells #[.bool okd, .int .u64 vd, .slice ao7 zd.length cap7, .int .i64 ad, .int .i64 ud] 37)
  have M0_27 := M0_21.below ((Below.refl _ _).alloc (Nat.le_refl _) (.cells #[.bool okd, .int .u64 vd, .slice ao7 zd.length cap7, .int .i64 ad, .int .i64 ud] 37))
  have W0_28 := W0_22.grown (World.grownBy_alloc _ (.cells #[.bool okd, .int .u64 vd, .slice ao7 zd.length cap7, .int .i64 ad, .int .i64 ud] 37) none) (by simp)
  have MX_29 := MX_23.below ((Below.refl _ _).alloc (Nat.le_refl _) (.cells #[.bool okd, .int .u64 vd, .slice ao7 zd.length cap7, .int .i64 ad, .int .i64 ud] 37))
  have X0_30 := X0_24.grown (World.grownBy_alloc _ (.cells #[.bool okd, .int .u64 vd, .slice ao7 zd.length cap7, .int .i64 ad, .int .i64 ud] 37) none) (by simp)
  have MG_31 := MG_0.below ((Below.refl _ _).alloc (Nat.le_refl _) (.cells #[.bool okd, .int .u64 vd, .slice ao7 zd.length cap7, .int .i64 ad, .int .i64 ud] 37))
  clear A_19 L_20 M0_21 W0_22 MX_23 X0_24 MG_0
  obtain ⟨y0, y1, y2, y3, y4⟩ := G0_0.all
  obtain ⟨v0, v1, v2, v3, v4⟩ := W0_28.all
  go_wp2_with fail
  refine (eqBitRes_same okd vd ao7 ao4 cap7 cap4 zd ad ud _ MG_31.row M0_27.row (by omega)).mono ?_
  rintro e w8 ⟨rfl, hb8⟩
  clear y0 y1 y2 y3 y4 v0 v1 v2 v3 v4
  have A_32 := A_25.grown (grownBy_of_below hb8 none) (by simp)
  have L_33 := L_26.trans (hb8.mono (by first | omega | (simp; omega)))
  have M0_34 := M0_27.below hb8
  have W0_35 := W0_28.grown (grownBy_of_below hb8 none) (by simp)
  have MX_36 := MX_29.below hb8
  have X0_37 := X0_30.grown (grownBy_of_below hb8 none) (by simp)
  have MG_38 := MG_31.below hb8
  have G0_39 := G0_0.grown (grownBy_of_below hb8 none) (by simp)
  clear A_25 L_26 M0_27 W0_28 MX_29 X0_30 MG_31 G0_0
  have zw8 : w7.heap.size < w8.heap.size := by have := hb8.size; simp at this; omega
  clear hb8
  obtain ⟨g0, g1, g2⟩ := A_32.three
  obtain ⟨x0, x1, x2⟩ := X0_37.three
  have HMX := hide1 MX_36
  have HL := hide1 L_33
  have HA := hide1 A_32
  have HX := hide1 X0_37
  go_wp2_with fail
  go_region_held3 (fun w' => w'.cell? ⟨w.heap.size, 0, none⟩ = some (.slice ao zs.length cap) ∧ w'.cell? ⟨w.heap.size, 1, none⟩ = some (.int .i64 a) ∧ w'.cell? ⟨w.heap.size, 2, none⟩ = some (.int .i64 u) ∧ w'.cell? ⟨w5.heap.size, 0, none⟩ = some (.slice (some ⟨g5, 0, none⟩) zs.length zs.length) ∧ w'.cell? ⟨w5.heap.size, 1, none⟩ = some (.int .i64 a) ∧ w'.cell? ⟨w5.heap.size, 2, none⟩ = some (.int .i64 u))
    (first | (refine ⟨?_, ?_, ?_, ?_, ?_, ?_⟩ <;> assumption) | (go_keep; done))
    (first | (go_at_call 11; refine (toBits_any ao cap zs a u _ (HR.out.below HL.out.drew) (by omega)).mono ?_; rintro e w9 ⟨g9, rfl, m9, hb9⟩; obtain ⟨_, _, _⟩ := (HA.out.grown (grownBy_of_below (((Below.refl _ _).drew).trans hb9) none) (by simp)).three; obtain ⟨_, _, _⟩ := (HX.out.grown (grownBy_of_below (((Below.refl _ _).drew).trans hb9) none) (by simp)).three) | (go_at_call 14; refine (eqBits_same (some ⟨g5, 0, none⟩) (some ⟨g9, 0, none⟩) _ _ zs a u _ (HMX.out.row.below (((Below.refl _ _).drew).trans hb9)) m9.row (by omega)).mono ?_; rintro e w10 ⟨rfl, hb10⟩; obtain ⟨_, _, _⟩ := (HA.out.grown (grownBy_of_below (((Below.refl _ _).drew).trans (hb9.trans (hb10.mono (by have := hb9.size; simpa using this)))) none) (by simp)).three; obtain ⟨_, _, _⟩ := (HX.out.grown (grownBy_of_below (((Below.refl _ _).drew).trans (hb9.trans (hb10.mono (by have := hb9.size; simpa using this)))) none) (by simp)).three))
  clear g0 g1 g2 x0 x1 x2
  have hb910 : Below w8.heap.size w8 w10 := ((Below.refl _ _).drew).trans (hb9.trans (hb10.mono (by have := hb9.size; simpa using this)))
  clear hb9 hb10 m9 HMX HL HA HX
  have A_40 := A_32.grown (grownBy_of_below hb910 none) (by simp)
  have L_41 := L_33.trans (hb910.mono (by first | omega | (simp; omega)))
  have M0_42 := M0_34.below hb910
  have W0_43 := W0_35.grown (grownBy_of_below hb910 none) (by simp)
  have MX_44 := MX_36.below hb910
  have X0_45 := X0_37.grown (grownBy_of_below hb910 none) (by simp)
  have MG_46 := MG_38.below hb910
  have G0_47 := G0_39.grown (grownBy_of_below hb910 none) (by simp)
  clear A_32 L_33 M0_34 W0_35 MX_36 X0_37 MG_38 G0_39
  have zw10 : w8.heap.size ≤ w10.heap.size := hb910.size
  clear hb910
  obtain ⟨x0, x1, x2⟩ := X0_45.three
  go_wp2_with fail
  refine (markBits_any _ (some ⟨g5, 0, none⟩) zs.length zs a u 1 _ MX_44 (by omega) (by omega)).mono ?_
  rintro e w13 ⟨rfl, mk13, hg13⟩
  have hg13' : w10.grownBy w13 (some g5) := hg13
  clear x0 x1 x2
  have A_48 := A_40.grown hg13' (by simp; omega)
  have L_49 := L_41.grown hg13' (by omega) (by intro k e; simp at e; omega)
  have M0_50 := M0_42.grown hg13' (by intro k e; simp at e; subst e; intro h; have := M0n _ h; omega)
  have W0_51 := W0_43.grown hg13' (by simp; omega)
  have MG_52 := MG_46.grown hg13' (by intro k e; simp at e; subst e; intro h; have := MGn _ h; omega)
  have G0_53 := G0_47.grown hg13' (by simp; omega)
  clear A_40 L_41 M0_42 W0_43 MX_44 X0_45 MG_46 G0_47
  have zw13 : w10.heap.size ≤ w13.heap.size := hg13.size
  clear hg13 hg13' mk13
  obtain ⟨y0, y1, y2, y3, y4⟩ := G0_53.all
  obtain ⟨v0, v1, v2, v3, v4⟩ := W0_51.all
  go_wp2_with fail
  refine (eqBitRes_same okd vd ao7 ao4 cap7 cap4 zd ad ud _ MG_52.row M0_50.row (by omega)).mono ?_
  rintro e w15 ⟨rfl, hb15⟩
  clear y0 y1 y2 y3 y4 v0 v1 v2 v3 v4
  have A_54 := A_48.grown (grownBy_of_below hb15 none) (by simp)
  have L_55 := L_49.trans (hb15.mono (by first | omega | (simp; omega)))
  have M0_56 := M0_50.below hb15
  have W0_57 := W0_51.grown (grownBy_of_below hb15 none) (by simp)
  have MG_58 := MG_52.below hb15
  have G0_59 := G0_53.grown (grownBy_of_below hb15 none) (by simp)
  clear A_48 L_49 M0_50 W0_51 MG_52 G0_53
  have zw15 : w13.heap.size ≤ w15.heap.size := hb15.size
  clear hb15
  obtain ⟨y0, y1, y2, y3, y4⟩ := G0_59.all
  go_wp2_with fail
  refine (markBitRes_any _ okd vd ao7 cap7 zd ad ud 1 _ MG_58 (by omega) (by omega)).mono ?_
  rintro e w16 ⟨rfl, mg16, hg16⟩
  clear y0 y1 y2 y3 y4
  have A_60 := A_54.grown hg16 (by intro e; have := MGn _ e.symm; omega)
  have L_61 := L_55.grown hg16 (by omega) (by intro k e; have := MGn _ e; omega)
  have M0_62 := M0_56.grown hg16 (by intro k e h; have := MGn _ e; have := M0n _ h; omega)
  have W0_63 := W0_57.grown hg16 (by intro e; have := MGn _ e.symm; omega)
  have G0_64 := G0_59.grown hg16 (by intro e; have := MGn _ e.symm; omega)
  clear A_54 L_55 M0_56 W0_57 MG_58 G0_59
  have zw16 : w15.heap.size ≤ w16.heap.size := hg16.size
  clear hg16
  obtain ⟨y0, y1, y2, y3, y4⟩ := G0_64.all
  go_wp2_with fail
  refine (heldBitRes_any okd vd ao7 cap7 zd.length ad ud 1 _ mg16.row (by omega) (by omega)).mono ?_
  rintro e w17 ⟨rfl, hb17⟩
  clear y0 y1 y2 y3 y4
  clear G0_64
  have A_65 := A_60.grown (grownBy_of_below hb17 none) (by simp)
  have L_66 := L_61.trans (hb17.mono (by first | omega | (simp; omega)))
  have M0_67 := M0_62.below hb17
  have W0_68 := W0_63.grown (grownBy_of_below hb17 none) (by simp)
  clear A_60 L_61 M0_62 W0_63
  have zw17 : w16.heap.size ≤ w17.heap.size := hb17.size
  clear hb17
  clear mg16
  obtain ⟨g0, g1, g2⟩ := A_65.three
  go_wp2_with fail
  refine (toBits_any ao cap zs a u _ (HR.out.below L_66) (by omega)).mono ?_
  rintro e w18 ⟨g18, rfl, m18, hb18⟩
  clear g0 g1 g2
  have A_69 := A_65.grown (grownBy_of_below hb18 none) (by simp)
  have L_70 := L_66.trans (hb18.mono (by first | omega | (simp; omega)))
  have M0_71 := M0_67.below hb18
  have W0_72 := W0_68.grown (grownBy_of_below hb18 none) (by simp)
  clear A_65 L_66 M0_67 W0_68
  have zw18 : w17.heap.size ≤ w18.heap.size := hb18.size
  clear hb18
  go_wp2_with fail
  refine (bitsTake_any (some ⟨g18, 0, none⟩) zs.length zs a u n _ m18.row HO.out (fun e => by cases e) (by omega)).mono ?_
  rintro e w20 ⟨⟨ao20, cap20, rfl, MH_0⟩, hb20⟩
  rw [Hzd.out] at MH_0
  rw [Hokd.out, Hvd.out, Hzd.out, Had.out, Hud.out]
  have A_73 := A_69.grown (grownBy_of_below hb20 none) (by simp)
  have L_74 := L_70.trans (hb20.mono (by first | omega | (simp; omega)))
  have M0_75 := M0_71.below hb20
  have W0_76 := W0_72.grown (grownBy_of_below hb20 none) (by simp)
  clear A_69 L_70 M0_71 W0_72
  have zw20 : w18.heap.size ≤ w20.heap.size := hb20.size
  clear hb20
  clear m18
  have H0_0 := five_new w20 (.bool okd) (.int .u64 vd) (.slice ao20 zd.length cap20) (.int .i64 ad) (.int .i64 ud) 37
  have A_77 := A_73.grown (World.grownBy_alloc _ (.cells #[.bool okd, .int .u64 vd, .slice ao20 zd.length cap20, .int .i64 ad, .int .i64 ud] 37) none) (by simp)
  have L_78 := L_74.alloc (by first | omega | (simp; omega)) (.cells #[.bool okd, .int .u64 vd, .slice ao20 zd.length cap20, .int .i64 ad, .int .i64 ud] 37)
  have M0_79 := M0_75.below ((Below.refl _ _).alloc (Nat.le_refl _) (.cells #[.bool okd, .int .u64 vd, .slice ao20 zd.length cap20, .int .i64 ad, .int .i64 ud] 37))
  have W0_80 := W0_76.grown (World.grownBy_alloc _ (.cells #[.bool okd, .int .u64 vd, .slice ao20 zd.length cap20, .int .i64 ad, .int .i64 ud] 37) none) (by simp)
  have MH_81 := MH_0.below ((Below.refl _ _).alloc (Nat.le_refl _) (.cells #[.bool okd, .int .u64 vd, .slice ao20 zd.length cap20, .int .i64 ad, .int .i64 ud] 37))
  clear A_73 L_74 M0_75 W0_76 MH_0
  obtain ⟨y0, y1, y2, y3, y4⟩ := H0_0.all
  obtain ⟨v0, v1, v2, v3, v4⟩ := W0_80.all
  go_wp2_with fail
  refine (eqBitRes_same okd vd ao20 ao4 cap20 cap4 zd ad ud _ MH_81.row M0_79.row (by omega)).mono ?_
  rintro e w21 ⟨rfl, hb21⟩
  clear y0 y1 y2 y3 y4 v0 v1 v2 v3 v4
  have A_82 := A_77.grown (grownBy_of_below hb21 none) (by simp)
  have L_83 := L_78.trans (hb21.mono (by first | omega | (simp; omega)))
  have M0_84 := M0_79.below hb21
  have W0_85 := W0_80.grown (grownBy_of_below hb21 none) (by simp)
  have MH_86 := MH_81.below hb21
  have H0_87 := H0_0.grown (grownBy_of_below hb21 none) (by simp)
  clear A_77 L_78 M0_79 W0_80 MH_81 H0_0
  go_wp2_with fail
  go_ret
  exact ⟨rfl, L_83⟩
end Go.Proofs.Ytmfacacpoajpgab
