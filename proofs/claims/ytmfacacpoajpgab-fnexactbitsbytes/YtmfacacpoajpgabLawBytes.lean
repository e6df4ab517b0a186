import Derived.Test.YtmfacacpoajpgabBytesS
import Derived.Test.YtmfacacpoajpgabLawY
namespace Go.Proofs.Ytmfacacpoajpgab
open Go.RowKit
attribute [local go_sem ↓] Go.wp_at_zero Go.wp_at_succ

theorem law_bytes_big (ao : Option Addr) (m cap : Nat) (a u n : Int) (w : World) (hn : m ≤ 9223372036854775807) (hbig : 1048576 < m) :
    Calls Try.prog 6 #[.agg #[.slice ao m cap, .int .i64 a, .int .i64 u], .int .i64 n] w fun e w' => e = .returned (.bool true) ∧ Below w.heap.size w w' := by
  go_enter Try.func6, Try.ntmps6
  go_wp2_with fail
  refine (szBits_any ao m cap a u 1048576 _ hn (by decide) (by decide)).mono ?_
  rintro e w1 ⟨rfl, hb1⟩
  rw [if_pos (by omega)]
  go_wp2_with fail
  go_ret
  exact ⟨rfl, ((Below.refl _ _).alloc (Nat.le_refl _) _).trans (hb1.mono (by simp))⟩

set_option maxRecDepth 100000 in
set_option maxHeartbeats 6400000 in
theorem law_bytes (ao : Option Addr) (cap : Nat) (zs : List Int) (a u n : Int) (w : World) (hr : Row w ao zs) (hn : zs.length ≤ 1048576) :
    Calls Try.prog 6 #[.agg #[.slice ao zs.length cap, .int .i64 a, .int .i64 u], .int .i64 n] w fun e w' => e = .returned (.bool true) ∧ Below w.heap.size w w' := by
  have hal := byZ_len zs a u n
  have hdl := byD_len zs a u n
  have A_0 := src_new w (.slice ao zs.length cap) a u 24
  have L_0 : Below w.heap.size w (w.alloc (.cells #[.slice ao zs.length cap, .int .i64 a, .int .i64 u] 24)) := (Below.refl _ _).alloc (Nat.le_refl _) _
  have HR := hide1 hr
  clear hr
  go_enter Try.func6, Try.ntmps6
  go_wp2_with fail
  refine (szBits_any ao zs.length cap a u 1048576 _ (by omega) (by decide) (by decide)).mono ?_
  rintro e w1 ⟨rfl, hb1⟩
  rw [if_neg (by omega)]
  have z0 : w.heap.size < (w.alloc (.cells #[.slice ao zs.length cap, .int .i64 a, .int .i64 u] 24)).heap.size := by simp
  have A_1 := A_0.grown (grownBy_of_below hb1 none) (by simp)
  have L_2 := L_0.trans (hb1.mono (by first | omega | (simp; omega)))
  clear A_0 L_0
  have z1 : w.heap.size < w1.heap.size := World.block_lt_of_cell? w1 _ A_1.1
  clear hb1 z0
  obtain ⟨g0, g1, g2⟩ := A_1.three
  go_wp2_with fail
  refine (toBits_any ao cap zs a u _ (HR.out.below L_2) (by omega)).mono ?_
  rintro e w2 ⟨gx, rfl, mx, hb2⟩
  clear g0 g1 g2
  have A_3 := A_1.grown (grownBy_of_below hb2 none) (by simp)
  have L_4 := L_2.trans (hb2.mono (by first | omega | (simp; omega)))
  clear A_1 L_2
  have zw2 : w1.heap.size ≤ w2.heap.size := hb2.size
  clear hb2
  go_wp2_with fail
  refine (sbitsBytes_any (some ⟨gx, 0, none⟩) zs.length zs a u n _ mx.row (Nat.le_refl _) (fun e => by cases e)).mono ?_
  rintro e w4 ⟨⟨do4, dc4, ao4, cap4, rfl, D0_0, M0_0, _⟩, hb4⟩
  have M0z : ∀ ad, ao4 = some ad → ad.block < w4.heap.size := fun ad e => (M0_0.lies ad e).2.1
  have D0z : ∀ ad, do4 = some ad → ad.block < w4.heap.size := fun ad e => (D0_0.lies ad e).2.1
  have A_5 := A_3.grown (grownBy_of_below hb4 none) (by simp)
  have L_6 := L_4.trans (hb4.mono (by first | omega | (simp; omega)))
  clear A_3 L_4
  have zw4 : w2.heap.size ≤ w4.heap.size := hb4.size
  clear hb4
  clear mx
  generalize hokd : byB zs a u n = okd at *
  generalize hdd : byD zs a u n = dd at *
  generalize hzd : byZ zs a u n = zd at *
  generalize had : byA zs a u n = ad at *
  generalize hud : byU zs a u n = ud at *
  have Hokd := hide1 hokd
  have Hdd := hide1 hdd
  have Hzd := hide1 hzd
  have Had := hide1 had
  have Hud := hide1 hud
  clear hokd hdd hzd had hud
  have W0_0 := five_new w4 (.bool okd) (.slice do4 dd.length dc4) (.slice ao4 zd.length cap4) (.int .i64 ad) (.int .i64 ud) 45
  have A_7 := A_5.grown (World.grownBy_alloc _ (.cells #[.bool okd, .slice do4 dd.length dc4, .slice ao4 zd.length cap4, .int .i64 ad, .int .i64 ud] 45) none) (by simp)
  have L_8 := L_6.alloc (by first | omega | (simp; omega)) (.cells #[.bool okd, .slice do4 dd.length dc4, .slice ao4 zd.length cap4, .int .i64 ad, .int .i64 ud] 45)
  have M0_9 := M0_0.below ((Below.refl _ _).alloc (Nat.le_refl _) (.cells #[.bool okd, .slice do4 dd.length dc4, .slice ao4 zd.length cap4, .int .i64 ad, .int .i64 ud] 45))
  have D0_10 := D0_0.below ((Below.refl _ _).alloc (Nat.le_refl _) (.cells #[.bool okd, .slice do4 dd.length dc4, .slice ao4 zd.length cap4, .int .i64 ad, .int .i64 ud] 45))
  clear A_5 L_6 M0_0 D0_0
  obtain ⟨g0, g1, g2⟩ := A_7.three
  go_wp2_with fail
  refine (toBits_any ao cap zs a u _ (HR.out.below L_8) (by omega)).mono ?_
  rintro e w5 ⟨g5, rfl, MX_0, hb5⟩
  clear g0 g1 g2
  have MXl : w4.heap.size < g5 ∧ g5 < w5.heap.size := by have := MX_0.lies _ rfl; simp at this; omega
  have A_11 := A_7.grown (grownBy_of_below hb5 none) (by simp)
  have L_12 := L_8.trans (hb5.mono (by first | omega | (simp; omega)))
  have M0_13 := M0_9.below hb5
  have D0_14 := D0_10.below hb5
  have W0_15 := W0_0.grown (grownBy_of_below hb5 none) (by simp)
  clear A_7 L_8 M0_9 D0_10 W0_0
  have zw5 : w4.heap.size < w5.heap.size := by have := hb5.size; simp at this; omega
  clear hb5
  have X0_0 := src_new w5 (.slice (some ⟨g5, 0, none⟩) zs.length zs.length) a u 26
  have A_16 := A_11.grown (World.grownBy_alloc _ (.cells #[.slice (some ⟨g5, 0, none⟩) zs.length zs.length, .int .i64 a, .int .i64 u] 26) none) (by simp)
  have L_17 := L_12.alloc (by first | omega | (simp; omega)) (.cells #[.slice (some ⟨g5, 0, none⟩) zs.length zs.length, .int .i64 a, .int .i64 u] 26)
  have M0_18 := M0_13.below ((Below.refl _ _).alloc (Nat.le_refl _) (.cells #[.slice (some ⟨g5, 0, none⟩) zs.length zs.length, .int .i64 a, .int .i64 u] 26))
  have D0_19 := D0_14.below ((Below.refl _ _).alloc (Nat.le_refl _) (.cells #[.slice (some ⟨g5, 0, none⟩) zs.length zs.length, .int .i64 a, .int .i64 u] 26))
  have W0_20 := W0_15.grown (World.grownBy_alloc _ (.cells #[.slice (some ⟨g5, 0, none⟩) zs.length zs.length, .int .i64 a, .int .i64 u] 26) none) (by simp)
  have MX_21 := MX_0.below ((Below.refl _ _).alloc (Nat.le_refl _) (.cells #[.slice (some ⟨g5, 0, none⟩) zs.length zs.length, .int .i64 a, .int .i64 u] 26))
  clear A_11 L_12 M0_13 D0_14 W0_15 MX_0
  obtain ⟨x0, x1, x2⟩ := X0_0.three
  go_wp2_with fail
  refine (bitsBytes_any (some ⟨g5, 0, none⟩) zs.length zs a u n _ MX_21.row (fun e => by cases e) (by omega)).mono ?_
  rintro e w7 ⟨⟨do7, dc7, ao7, cap7, rfl, DG_0, MG_0, hdis7⟩, hb7⟩
  clear x0 x1 x2
  rw [Hzd.out] at MG_0
  rw [Hdd.out] at DG_0
  rw [Hokd.out, Hdd.out, Hzd.out, Had.out, Hud.out]
  have MGz : ∀ a2, ao7 = some a2 → w5.heap.size < a2.block ∧ a2.block < w7.heap.size := fun a2 e => by have := MG_0.lies a2 e; simp at this; omega
  have MGn : ∀ k, blk ao7 = some k → w5.heap.size < k ∧ k < w7.heap.size := by intro k e; cases ao7 with | none => cases e | some a2 => (have := MGz a2 rfl; simp [blk] at e; omega)
  have M0n : ∀ k, blk ao4 = some k → k < w4.heap.size := by intro k e; cases ao4 with | none => cases e | some a2 => (have := M0z a2 rfl; simp [blk] at e; omega)
  have DGz : ∀ a2, do7 = some a2 → w5.heap.size < a2.block ∧ a2.block < w7.heap.size := fun a2 e => by have := DG_0.lies a2 e; simp at this; omega
  have DGn : ∀ k, blk do7 = some k → w5.heap.size < k ∧ k < w7.heap.size := by intro k e; cases do7 with | none => cases e | some a2 => (have := DGz a2 rfl; simp [blk] at e; omega)
  have D0n : ∀ k, blk do4 = some k → k < w4.heap.size := by intro k e; cases do4 with | none => cases e | some a2 => (have := D0z a2 rfl; simp [blk] at e; omega)
  have A_22 := A_16.grown (grownBy_of_below hb7 none) (by simp)
  have L_23 := L_17.trans (hb7.mono (by first | omega | (simp; omega)))
  have M0_24 := M0_18.below hb7
  have D0_25 := D0_19.below hb7
  have W0_26 := W0_20.grown (grownBy_of_below hb7 none) (by simp)
  have MX_27 := MX_21.below hb7
  have X0_28 := X0_0.grown (grownBy_of_below hb7 none) (by simp)
  clear A_16 L_17 M0_18 D0_19 W0_20 MX_21 X0_0
  have zw7 : w5.heap.size < w7.heap.size := by have := hb7.size; simp at this; omega
  clear hb7
  have G0_0 := five_new w7 (.bool okd) (.slice do7 dd.length dc7) (.slice ao7 zd.length cap7) (.int .i64 ad) (.int .i64 ud) 45
  have A_29 := A_22.grown (World.grownBy_alloc _ (.cells #[.bool okd, .slice do7 dd.length dc7, .slice ao7 zd.length cap7, .int .i64 ad, .int .i64 ud] 45) none) (by simp)
  have L_30 := L_23.alloc (by first | omega | (simp; omega)) (.cells #[.bool okd, .slice do7 dd.length dc7, .slice ao7 zd.length cap7, .int .i64 ad, .int .i64 ud] 45)
  have M0_31 := M0_24.below ((Below.refl _ _).alloc (Nat.le_refl _) (.cells #[.bool okd, .slice do7 dd.length dc7, .slice ao7 zd.length cap7, .int .i64 ad, .int .i64 ud] 45))
  have D0_32 := D0_25.below ((Below.refl _ _).alloc (Nat.le_refl _) (.cells #[.bool okd, .slice do7 dd.length dc7, .slice ao7 zd.length cap7, .int .i64 ad, .int .i64 ud] 45))
  have W0_33 := W0_26.grown (World.grownBy_alloc _ (.cells #[.bool okd, .slice do7 dd.length dc7, .slice ao7 zd.length cap7, .int .i64 ad, .int .i64 ud] 45) none) (by simp)
  have MX_34 := MX_27.below ((Below.refl _ _).alloc (Nat.le_refl _) (.cells #[.bool okd, .slice do7 dd.length dc7, .slice ao7 zd.length cap7, .int .i64 ad, .int .i64 ud] 45))
  have X0_35 := X0_28.grown (World.grownBy_alloc _ (.cells #[.bool okd, .slice do7 dd.length dc7, .slice ao7 zd.length cap7, .int .i64 ad, .int .i64 ud] 45) none) (by simp)
  have MG_36 := MG_0.below ((Below.refl _ _).alloc (Nat.le_refl _) (.cells #[.bool okd, .slice do7 dd.length dc7, .slice ao7 zd.length cap7, .int .i64 ad, .int .i64 ud] 45))
  have DG_37 := DG_0.below ((Below.refl _ _).alloc (Nat.le_refl _) (.cells #[.bool okd, .slice do7 dd.length dc7, .slice ao7 zd.length cap7, .int .i64 ad, .int .i64 ud] 45))
  clear A_22 L_23 M0_24 D0_25 W0_26 MX_27 X0_28 MG_0 DG_0
  obtain ⟨y0, y1, y2, y3, y4⟩ := G0_0.all
  obtain ⟨v0, v1, v2, v3, v4⟩ := W0_33.all
  go_wp2_with fail
  refine (eqByteRes_same okd do7 do4 ao7 ao4 dc7 dc4 cap7 cap4 dd zd ad ud _ DG_37.row D0_32.row MG_36.row M0_31.row (by omega) (by omega)).mono ?_
  rintro e w8 ⟨rfl, hb8⟩
  clear y0 y1 y2 y3 y4 v0 v1 v2 v3 v4
  have A_38 := A_29.grown (grownBy_of_below hb8 none) (by simp)
  have L_39 := L_30.trans (hb8.mono (by first | omega | (simp; omega)))
  have M0_40 := M0_31.below hb8
  have D0_41 := D0_32.below hb8
  have W0_42 := W0_33.grown (grownBy_of_below hb8 none) (by simp)
  have MX_43 := MX_34.below hb8
  have X0_44 := X0_35.grown (grownBy_of_below hb8 none) (by simp)
  have MG_45 := MG_36.below hb8
  have DG_46 := DG_37.below hb8
  have G0_47 := G0_0.grown (grownBy_of_below hb8 none) (by simp)
  clear A_29 L_30 M0_31 D0_32 W0_33 MX_34 X0_35 MG_36 DG_37 G0_0
  have zw8 : w7.heap.size < w8.heap.size := by have := hb8.size; simp at this; omega
  clear hb8
  obtain ⟨g0, g1, g2⟩ := A_38.three
  obtain ⟨x0, x1, x2⟩ := X0_44.three
  have HMX := hide1 MX_43
  have HL := hide1 L_39
  have HA := hide1 A_38
  have HX := hide1 X0_44
  go_wp2_with fail
  go_region_held3 (fun w' => w'.cell? ⟨w.heap.size, 0, none⟩ = some (.slice ao zs.length cap) ∧ w'.cell? ⟨w.heap.size, 1, none⟩ = some (.int .i64 a) ∧ w'.cell? ⟨w.heap.size, 2, none⟩ = some (.int .i64 u) ∧ w'.cell? ⟨w5.heap.size, 0, none⟩ = some (.slice (some ⟨g5, 0, none⟩) zs.length zs.length) ∧ w'.cell? ⟨w5.heap.size, 1, none⟩ = some (.int .i64 a) ∧ w'.cell? ⟨w5.heap.size, 2, none⟩ = some (.int .i64 u))
    (first | (refine ⟨?_, ?_, ?_, ?_, ?_, ?_⟩ <;> assumption) | (go_keep; done))
    (first | (go_at_call 11; refine (toBits_any ao cap zs a u _ (HR.out.below HL.out.drew) (by omega)).mono ?_; rintro e w9 ⟨g9, rfl, m9, hb9⟩; obtain ⟨_, _, _⟩ := (HA.out.grown (grownBy_of_below (((Below.refl _ _).drew).trans hb9) none) (by simp)).three; obtain ⟨_, _, _⟩ := (HX.out.grown (grownBy_of_below (((Below.refl _ _).drew).trans hb9) none) (by simp)).three) | (go_at_call 14; refine (eqBits_same (some ⟨g5, 0, none⟩) (some ⟨g9, 0, none⟩) _ _ zs a u _ (HMX.out.row.below (((Below.refl _ _).drew).trans hb9)) m9.row (by omega)).mono ?_; rintro e w10 ⟨rfl, hb10⟩; obtain ⟨_, _, _⟩ := (HA.out.grown (grownBy_of_below (((Below.refl _ _).drew).trans (hb9.trans (hb10.mono (by have := hb9.size; simpa using this)))) none) (by simp)).three; obtain ⟨_, _, _⟩ := (HX.out.grown (grownBy_of_below (((Below.refl _ _).drew).trans (hb9.trans (hb10.mono (by have := hb9.size; simpa using this)))) none) (by simp)).three))
  clear g0 g1 g2 x0 x1 x2
  have hb910 : Below w8.heap.size w8 w10 := ((Below.refl _ _).drew).trans (hb9.trans (hb10.mono (by have := hb9.size; simpa using this)))
  clear hb9 hb10 m9 HMX HL HA HX
  have A_48 := A_38.grown (grownBy_of_below hb910 none) (by simp)
  have L_49 := L_39.trans (hb910.mono (by first | omega | (simp; omega)))
  have M0_50 := M0_40.below hb910
  have D0_51 := D0_41.below hb910
  have W0_52 := W0_42.grown (grownBy_of_below hb910 none) (by simp)
  have MX_53 := MX_43.below hb910
  have X0_54 := X0_44.grown (grownBy_of_below hb910 none) (by simp)
  have MG_55 := MG_45.below hb910
  have DG_56 := DG_46.below hb910
  have G0_57 := G0_47.grown (grownBy_of_below hb910 none) (by simp)
  clear A_38 L_39 M0_40 D0_41 W0_42 MX_43 X0_44 MG_45 DG_46 G0_47
  have zw10 : w8.heap.size ≤ w10.heap.size := hb910.size
  clear hb910
  obtain ⟨x0, x1, x2⟩ := X0_54.three
  go_wp2_with fail
  refine (markBits_any _ (some ⟨g5, 0, none⟩) zs.length zs a u 1 _ MX_53 (by omega) (by omega)).mono ?_
  rintro e w13 ⟨rfl, mk13, hg13⟩
  have hg13' : w10.grownBy w13 (some g5) := hg13
  clear x0 x1 x2
  have A_58 := A_48.grown hg13' (by simp; omega)
  have L_59 := L_49.grown hg13' (by omega) (by intro k e; simp at e; omega)
  have M0_60 := M0_50.grown hg13' (by intro k e; simp at e; subst e; intro h; have := M0n _ h; omega)
  have D0_61 := D0_51.grown hg13' (by intro k e; simp at e; subst e; intro h; have := D0n _ h; omega)
  have W0_62 := W0_52.grown hg13' (by simp; omega)
  have MG_63 := MG_55.grown hg13' (by intro k e; simp at e; subst e; intro h; have := MGn _ h; omega)
  have DG_64 := DG_56.grown hg13' (by intro k e; simp at e; subst e; intro h; have := DGn _ h; omega)
  have G0_65 := G0_57.grown hg13' (by simp; omega)
  clear A_48 L_49 M0_50 D0_51 W0_52 MX_53 X0_54 MG_55 DG_56 G0_57
  have zw13 : w10.heap.size ≤ w13.heap.size := hg13.size
  clear hg13 hg13' mk13
  obtain ⟨y0, y1, y2, y3, y4⟩ := G0_65.all
  obtain ⟨v0, v1, v2, v3, v4⟩ := W0_62.all
  go_wp2_with fail
  refine (eqByteRes_same okd do7 do4 ao7 ao4 dc7 dc4 cap7 cap4 dd zd ad ud _ DG_64.row D0_61.row MG_63.row M0_60.row (by omega) (by omega)).mono ?_
  rintro e w15 ⟨rfl, hb15⟩
  clear y0 y1 y2 y3 y4 v0 v1 v2 v3 v4
  have A_66 := A_58.grown (grownBy_of_below hb15 none) (by simp)
  have L_67 := L_59.trans (hb15.mono (by first | omega | (simp; omega)))
  have M0_68 := M0_60.below hb15
  have D0_69 := D0_61.below hb15
  have W0_70 := W0_62.grown (grownBy_of_below hb15 none) (by simp)
  have MG_71 := MG_63.below hb15
  have DG_72 := DG_64.below hb15
  have G0_73 := G0_65.grown (grownBy_of_below hb15 none) (by simp)
  clear A_58 L_59 M0_60 D0_61 W0_62 MG_63 DG_64 G0_65
  have zw15 : w13.heap.size ≤ w15.heap.size := hb15.size
  clear hb15
  obtain ⟨y0, y1, y2, y3, y4⟩ := G0_73.all
  go_wp2_with fail
  refine (markByteRes_any _ okd do7 ao7 dc7 cap7 dd zd ad ud 1 _ (DG_72) (MG_71) hdis7 (by omega) (by omega) (by omega)).mono ?_
  rintro e w16 ⟨rfl, dg16, mg16, wm16, hgd16, hg16⟩
  clear y0 y1 y2 y3 y4
  have A_74 := A_66.grown hgd16 (by intro e; have := DGn _ e.symm; omega)
  have L_75 := L_67.grown hgd16 (by omega) (by intro k e; have := DGn _ e; omega)
  have M0_76 := M0_68.grown hgd16 (by intro k e h; have := DGn _ e; have := M0n _ h; omega)
  have D0_77 := D0_69.grown hgd16 (by intro k e h; have := DGn _ e; have := D0n _ h; omega)
  have W0_78 := W0_70.grown hgd16 (by intro e; have := DGn _ e.symm; omega)
  have G0_79 := G0_73.grown hgd16 (by intro e; have := DGn _ e.symm; omega)
  clear A_66 L_67 M0_68 D0_69 W0_70 MG_71 DG_72 G0_73
  have zwm : w15.heap.size ≤ wm16.heap.size := hgd16.size
  have A_80 := A_74.grown hg16 (by intro e; have := MGn _ e.symm; omega)
  have L_81 := L_75.grown hg16 (by omega) (by intro k e; have := MGn _ e; omega)
  have M0_82 := M0_76.grown hg16 (by intro k e h; have := MGn _ e; have := M0n _ h; omega)
  have D0_83 := D0_77.grown hg16 (by intro k e h; have := MGn _ e; have := D0n _ h; omega)
  have W0_84 := W0_78.grown hg16 (by intro e; have := MGn _ e.symm; omega)
  have G0_85 := G0_79.grown hg16 (by intro e; have := MGn _ e.symm; omega)
  clear A_74 L_75 M0_76 D0_77 W0_78 G0_79
  have zw16 : wm16.heap.size ≤ w16.heap.size := hg16.size
  clear hg16 hgd16
  obtain ⟨y0, y1, y2, y3, y4⟩ := G0_85.all
  go_wp2_with fail
  refine (heldByteRes_any okd do7 ao7 dc7 cap7 dd.length zd.length ad ud 1 _ dg16 mg16 (by omega) (by omega) (by omega)).mono ?_
  rintro e w17 ⟨rfl, hb17⟩
  clear y0 y1 y2 y3 y4
  clear G0_85
  have A_86 := A_80.grown (grownBy_of_below hb17 none) (by simp)
  have L_87 := L_81.trans (hb17.mono (by first | omega | (simp; omega)))
  have M0_88 := M0_82.below hb17
  have D0_89 := D0_83.below hb17
  have W0_90 := W0_84.grown (grownBy_of_below hb17 none) (by simp)
  clear A_80 L_81 M0_82 D0_83 W0_84
  have zw17 : w16.heap.size ≤ w17.heap.size := hb17.size
  clear hb17
  clear mg16 dg16
  obtain ⟨g0, g1, g2⟩ := A_86.three
  go_wp2_with fail
  refine (toBits_any ao cap zs a u _ (HR.out.below L_87) (by omega)).mono ?_
  rintro e w18 ⟨g18, rfl, m18, hb18⟩
  clear g0 g1 g2
  have A_91 := A_86.grown (grownBy_of_below hb18 none) (by simp)
  have L_92 := L_87.trans (hb18.mono (by first | omega | (simp; omega)))
  have M0_93 := M0_88.below hb18
  have D0_94 := D0_89.below hb18
  have W0_95 := W0_90.grown (grownBy_of_below hb18 none) (by simp)
  clear A_86 L_87 M0_88 D0_89 W0_90
  have zw18 : w17.heap.size ≤ w18.heap.size := hb18.size
  clear hb18
  go_wp2_with fail
  refine (bitsBytes_any (some ⟨g18, 0, none⟩) zs.length zs a u n _ m18.row (fun e => by cases e) (by omega)).mono ?_
  rintro e w20 ⟨⟨do20, dc20, ao20, cap20, rfl, DH_0, MH_0, _⟩, hb20⟩
  rw [Hzd.out] at MH_0
  rw [Hdd.out] at DH_0
  rw [Hokd.out, Hdd.out, Hzd.out, Had.out, Hud.out]
  have A_96 := A_91.grown (grownBy_of_below hb20 none) (by simp)
  have L_97 := L_92.trans (hb20.mono (by first | omega | (simp; omega)))
  have M0_98 := M0_93.below hb20
  have D0_99 := D0_94.below hb20
  have W0_100 := W0_95.grown (grownBy_of_below hb20 none) (by simp)
  clear A_91 L_92 M0_93 D0_94 W0_95
  have zw20 : w18.heap.size ≤ w20.heap.size := hb20.size
  clear hb20
  clear m18
  have H0_0 := five_new w20 (.bool okd) (.slice do20 dd.length dc20) (.slice ao20 zd.length cap20) (.int .i64 ad) (.int .i64 ud) 45
  have A_101 := A_96.grown (World.grownBy_alloc _ (.cells #[.bool okd, .slice do20 dd.length dc20, .slice ao20 zd.length cap20, .int .i64 ad, .int .i64 ud] 45) none) (by simp)
  have L_102 := L_97.alloc (by first | omega | (simp; omega)) (.cells #[.bool okd, .slice do20 dd.length dc20, .slice ao20 zd.length cap20, .int .i64 ad, .int .i64 ud] 45)
  have M0_103 := M0_98.below ((Below.refl _ _).alloc (Nat.le_refl _) (.cells #[.bool okd, .slice do20 dd.length dc20, .slice ao20 zd.length cap20, .int .i64 ad, .int .i64 ud] 45))
  have D0_104 := D0_99.below ((Below.refl _ _).alloc (Nat.le_refl _) (.cells #[.bool okd, .slice do20 dd.length dc20, .slice ao20 zd.length cap20, .int .i64 ad, .int .i64 ud] 45))
  have W0_105 := W0_100.grown (World.grownBy_alloc _ (.cells #[.bool okd, .slice do20 dd.length dc20, .slice ao20 zd.length cap20, .int .i64 ad, .int .i64 ud] 45) none) (by simp)
  have MH_106 := MH_0.below ((Below.refl _ _).alloc (Nat.le_refl _) (.cells #[.bool okd, .slice do20 dd.length dc20, .slice ao20 zd.length cap20, .int .i64 ad, .int .i64 ud] 45))
  have DH_107 := DH_0.below ((Below.refl _ _).alloc (Nat.le_refl _) (.cells #[.bool okd, .slice do20 dd.length dc20, .slice ao20 zd.length cap20, .int .i64 ad, .int .i64 ud] 45))
  clear A_96 L_97 M0_98 D0_99 W0_100 MH_0 DH_0
  obtain ⟨y0, y1, y2, y3, y4⟩ := H0_0.all
  obtain ⟨v0, v1, v2, v3, v4⟩ := W0_105.all
  go_wp2_with fail
  refine (eqByteRes_same okd do20 do4 ao20 ao4 dc20 dc4 cap20 cap4 dd zd ad ud _ DH_107.row D0_104.row MH_106.row M0_103.row (by omega) (by omega)).mono ?_
  rintro e w21 ⟨rfl, hb21⟩
  clear y0 y1 y2 y3 y4 v0 v1 v2 v3 v4
  have A_108 := A_101.grown (grownBy_of_below hb21 none) (by simp)
  have L_109 := L_102.trans (hb21.mono (by first | omega | (simp; omega)))
  have M0_110 := M0_103.below hb21
  have D0_111 := D0_104.below hb21
  have W0_112 := W0_105.grown (grownBy_of_below hb21 none) (by simp)
  have MH_113 := MH_106.below hb21
  have DH_114 := DH_107.below hb21
  have H0_115 := H0_0.grown (grownBy_of_below hb21 none) (by simp)
  clear A_101 L_102 M0_103 D0_104 W0_105 MH_106 DH_107 H0_0
  go_wp2_with fail
  go_ret
  exact ⟨rfl, L_109⟩
end Go.Proofs.Ytmfacacpoajpgab
