import Derived.Test.YtlfabilmilkboaaGreatDoorRows
import Derived.Test.YtlfabilmilkboaaGreatDoorCards
import Derived.Test.YtlfabilmilkboaaGreatDoorTie
import Derived.WalkKit
import Derived.ProofKit
import Derived.OpenShut
import Derived.OpenVars
import Derived.ShutString
import Derived.ChangeOld
import Derived.ChangeVars
import Derived.Below
import Derived.LaidLaws
import Derived.LaidHandle
import Derived.LaidMore
import Derived.SevenTiedAt
import Derived.Stop.Joined
import Derived.Lib.SmallJoins
import Derived.Test.YtlfabilmilkboaaGreatDoorMBO
import Derived.Test.YtlfabilmilkboaaGreatDoorMBZ
namespace Go.Proofs.YtlfabilmilkboaaGreatDoor
open Go.RowKit
attribute [local go_sem ↓] Go.wp_at_zero Go.wp_at_succ
set_option linter.unusedVariables false

theorem Rs3v.same {w w' : World} {g : Nat} {v0 v1 v2 : Value} (h : Rs3v w g v0 v1 v2) (hb : w'.heap[g]? = w.heap[g]?) : Rs3v w' g v0 v1 v2 := by
  have hc : ∀ o, w'.cell? ⟨g, o, none⟩ = w.cell? ⟨g, o, none⟩ := fun o => World.cell?_of_block (w := w) (a := ⟨g, o, none⟩) hb
  exact ⟨(hc 0).trans h.c0, (hc 1).trans h.c1, (hc 2).trans h.c2, fun k => (World.frozen?_of_block (w := w) (a := ⟨g, k, none⟩) hb).trans (h.f k)⟩
theorem Rs3v.far {w w' : World} {g : Nat} {row : Option Nat} {v0 v1 v2 : Value} (h : Rs3v w g v0 v1 v2) (hg : w.grownBy w' row) (hne : some g ≠ row) : Rs3v w' g v0 v1 v2 := h.same (hg.block g (World.block_lt_of_cell? _ _ h.c0) hne)
theorem Row.beneathI {w w' : World} {B : Nat} {ao : Option Addr} {zs : List Int} (h : Row w ao zs) (hb : Below B w w') (hl : ∀ ad, ao = some ad → 0 < zs.length → ad.block < B) : Row w' ao zs := by
  intro i hi
  obtain ⟨b, off, e, hc⟩ := h i hi
  subst e
  exact ⟨b, off, rfl, (hb.cell (p := ⟨b, off + i, none⟩) (hl ⟨b, off, none⟩ rfl (by omega))).trans hc⟩
theorem lawIn_big1 (ao bo : Option Addr) (n cap m cb : Nat) (a : Int) (w : World) (hn : n ≤ 9223372036854775807) (hbig : 1048576 < n) :
    Calls Tryz.prog 3 #[.slice ao n cap, .int .i64 a, .slice bo m cb] w fun e w' => e = .returned (.bool true) ∧ Below w.heap.size w w' := by
  go_enter Tryz.func3, Tryz.ntmps3
  go_wp2_with fail
  go_ret
  exact ⟨rfl, Below.refl _ _⟩
theorem lawIn_big2 (ao bo : Option Addr) (n cap m cb : Nat) (a : Int) (w : World) (hn : n ≤ 1048576) (hm : m ≤ 9223372036854775807) (hbig : 1048576 < m) :
    Calls Tryz.prog 3 #[.slice ao n cap, .int .i64 a, .slice bo m cb] w fun e w' => e = .returned (.bool true) ∧ Below w.heap.size w w' := by
  go_enter Tryz.func3, Tryz.ntmps3
  go_wp2_with fail
  go_ret
  exact ⟨rfl, Below.refl _ _⟩
set_option maxRecDepth 100000 in
set_option maxHeartbeats 25600000 in
theorem lawIn (ao bo : Option Addr) (cap cb : Nat) (zs d : List Int) (a : Int) (w : World) (hr : Row w ao zs) (hrd : Row w bo d) (hoct : Octets zs) (hn : zs.length ≤ 1048576) (hd : d.length ≤ 1048576) (ha0 : -9223372036854775808 ≤ a) (ha1 : a ≤ 9223372036854775807) (hG : Glob w) :
    Calls Tryz.prog 3 #[.slice ao zs.length cap, .int .i64 a, .slice bo d.length cb] w fun e w' => e = .returned (.bool true) ∧ Below w.heap.size w w' := by
  obtain ⟨K, OUT, N, hls, hS, hI⟩ := inflate_both zs d a hoct hn hd ha0 ha1
  have HR := hideM hr
  have HD := hideM hrd
  have HS := hideM hS
  have HI := hideM hI
  have HG := hideM hG
  have hGs := hG.sz
  clear hr hrd hS hI hG hoct
  go_enter Tryz.func3, Tryz.ntmps3
  go_wp2_with fail
  refine (toByteS_any ao cap zs w HR.out (by omega)).mono ?_
  rintro e w1 ⟨rfl, ho1, hb1⟩
  have R1 := hideM (Row.owned ho1)
  have y1 : w.heap.size < w1.heap.size := ((OwnsB.mine (e := 5) ho1).lies _ rfl).2.1
  have L1 := hideM hb1
  clear ho1 hb1
  go_wp2_with fail
  refine (toByteS_any bo cb d w1 (HD.out.below L1.out) (by omega)).mono ?_
  rintro e w2 ⟨rfl, ho2, hb2⟩
  have D2 := hideM (Row.owned ho2)
  have y2 : w1.heap.size < w2.heap.size := ((OwnsB.mine (e := 5) ho2).lies _ rfl).2.1
  have L2 := hideM (L1.out.trans (hb2.mono L1.out.size))
  have R2 := hideM (R1.out.below hb2)
  clear ho2 hb2 L1 R1
  go_wp2_with fail
  refine (HS.out w2 _ _ R2.out (by dsimp only; omega) D2.out (by dsimp only; omega)).mono ?_
  rintro e w3 ⟨aW, cW, rfl, hin3, hb3⟩
  have A3 := hideM hin3.mine.row
  have HWA := hideM (fun ad (e : aW = some ad) (_ : 0 < OUT.length) => (hin3.mine.lies ad e).2.1)
  have L3 := hideM (L2.out.trans (hb3.mono L2.out.size))
  have zw : w.heap.size ≤ w3.heap.size := L3.out.size
  clear hb3 hin3 L2 R2 D2
  have E4 := hideM (rs3v_new w3 (.int .i64 K) (.slice aW OUT.length cW) (.int .i64 N) 24)
  have hb4 : Below w3.heap.size w3 (w3.alloc (.cells #[.int .i64 K, .slice aW OUT.length cW, .int .i64 N] 24)) := (Below.refl _ _).alloc (Nat.le_refl _) _
  have W4 := E4
  have A4 := hideM (A3.out.below hb4)
  have L4 := hideM (L3.out.trans (hb4.mono L3.out.size))
  clear E4 A3 L3
  have hw4 : w3.heap.size < (w3.alloc (.cells #[.int .i64 K, .slice aW OUT.length cW, .int .i64 N] 24)).heap.size := World.block_lt_of_cell? _ _ W4.out.c0
  go_upto_region 6 with fail
  generalize hW4e : (w3.alloc (.cells #[.int .i64 K, .slice aW OUT.length cW, .int .i64 N] 24)) = w4 at *
  clear hW4e hb4
  go_wp2_with fail
  refine (toByteS_any ao cap zs w4 (HR.out.below L4.out) (by omega)).mono ?_
  rintro e w5 ⟨rfl, ho5, hb5⟩
  have z5 : w4.heap.size < w5.heap.size := ((OwnsB.mine (e := 5) ho5).lies _ rfl).2.1
  have X5 := hideM (OwnsB.mine (e := 5) ho5)
  have A5 := hideM (A4.out.below hb5)
  have L5 := hideM (L4.out.trans (hb5.mono L4.out.size))
  have W5 := hideM (W4.out.below hb5 (World.block_lt_of_cell? _ _ W4.out.c0))
  clear ho5 hb5 A4 L4 W4
  go_wp2_with fail
  refine (toByteS_any bo cb d w5 (HD.out.below L5.out) (by omega)).mono ?_
  rintro e w6 ⟨rfl, ho6, hb6⟩
  have z6 : w5.heap.size < w6.heap.size := ((OwnsB.mine (e := 5) ho6).lies _ rfl).2.1
  have Y6 := hideM (OwnsB.mine (e := 5) ho6)
  have A6 := hideM (A5.out.below hb6)
  have L6 := hideM (L5.out.trans (hb6.mono L5.out.size))
  have W6 := hideM (W5.out.below hb6 (World.block_lt_of_cell? _ _ W5.out.c0))
  have X6 := hideM (X5.out.below hb6)
  clear ho6 hb6 A5 L5 W5 X5
  go_wp2_with fail
  refine (HI.out w6 _ _ X6.out.row (by dsimp only; omega) Y6.out.row (by dsimp only; omega) (HG.out.below L6.out hGs)).mono ?_
  rintro e w7 ⟨aG, cG, rfl, hin7, hb7⟩
  have I7 := hideM hin7
  have HGA := hideM (fun g (e : blk aG = some g) => (hin7.lower2 g e))
  have A7 := hideM (A6.out.below hb7)
  have L7 := hideM (L6.out.trans (hb7.mono L6.out.size))
  have W7 := hideM (W6.out.below hb7 (World.block_lt_of_cell? _ _ W6.out.c0))
  have X7 := hideM (X6.out.below hb7)
  have Y7 := hideM (Y6.out.below hb7)
  have z7 : w6.heap.size ≤ w7.heap.size := hb7.size
  clear hb7 hin7 A6 L6 W6 X6 Y6
  have E8 := hideM (rs3v_new w7 (.int .i64 K) (.slice aG OUT.length cG) (.int .i64 N) 24)
  have hb8 : Below w7.heap.size w7 (w7.alloc (.cells #[.int .i64 K, .slice aG OUT.length cG, .int .i64 N] 24)) := (Below.refl _ _).alloc (Nat.le_refl _) _
  have G8 := E8
  have A8 := hideM (A7.out.below hb8)
  have L8 := hideM (L7.out.trans (hb8.mono L7.out.size))
  have W8 := hideM (W7.out.below hb8 (World.block_lt_of_cell? _ _ W7.out.c0))
  have X8 := hideM (X7.out.below hb8)
  have Y8 := hideM (Y7.out.below hb8)
  have I8 := hideM (I7.out.below hb8)
  clear E8 A7 L7 W7 X7 Y7 I7
  go_upto_region 9 with fail
  have z8 : w7.heap.size < (w7.alloc (.cells #[.int .i64 K, .slice aG OUT.length cG, .int .i64 N] 24)).heap.size := World.block_lt_of_cell? _ _ G8.out.c0
  generalize (w7.alloc (.cells #[.int .i64 K, .slice aG OUT.length cG, .int .i64 N] 24)) = w8 at *
  clear hb8
  obtain ⟨p0, p1, p2, _⟩ := G8.out
  obtain ⟨q0, q1, q2, _⟩ := W8.out
  go_wp2_with fail
  clear p0 p1 p2 q0 q1 q2
  refine (eqInf_same K N aG aW cG cW OUT w8 I8.out.mine.row A8.out (by omega)).mono ?_
  rintro e w9 ⟨rfl, hb9⟩
  have A9 := hideM (A8.out.below hb9)
  have L9 := hideM (L8.out.trans (hb9.mono L8.out.size))
  have W9 := hideM (W8.out.below hb9 (World.block_lt_of_cell? _ _ W8.out.c0))
  have X9 := hideM (X8.out.below hb9)
  have Y9 := hideM (Y8.out.below hb9)
  have I9 := hideM (I8.out.below hb9)
  have G9 := hideM (G8.out.below hb9 (World.block_lt_of_cell? _ _ G8.out.c0))
  have z9 : w8.heap.size ≤ w9.heap.size := hb9.size
  clear hb9 A8 L8 W8 X8 Y8 I8 G8
  go_wp2_with fail
  refine (toByteS_any ao cap zs w9 (HR.out.below L9.out) (by omega)).mono ?_
  rintro e w10 ⟨rfl, ho10, hb10⟩
  have z10 : w9.heap.size < w10.heap.size := ((OwnsB.mine (e := 5) ho10).lies _ rfl).2.1
  have R10 := hideM (Row.owned ho10)
  have A10 := hideM (A9.out.below hb10)
  have L10 := hideM (L9.out.trans (hb10.mono L9.out.size))
  have W10 := hideM (W9.out.below hb10 (World.block_lt_of_cell? _ _ W9.out.c0))
  have X10 := hideM (X9.out.below hb10)
  have Y10 := hideM (Y9.out.below hb10)
  have I10 := hideM (I9.out.below hb10)
  have G10 := hideM (G9.out.below hb10 (World.block_lt_of_cell? _ _ G9.out.c0))
  clear ho10 hb10 A9 L9 W9 X9 Y9 I9 G9
  go_wp2_with fail
  refine (eqByteS_any _ _ _ _ zs zs w10 X10.out.row R10.out (by omega)).mono ?_
  rintro e w11 ⟨rfl, q11, e11⟩
  have hb11 : Below w10.heap.size w10 w11 := by rw [e11]; exact below_drewN' _ _ _
  rw [decide_eq_true rfl]
  have A11 := hideM (A10.out.below hb11)
  have L11 := hideM (L10.out.trans (hb11.mono L10.out.size))
  have W11 := hideM (W10.out.below hb11 (World.block_lt_of_cell? _ _ W10.out.c0))
  have X11 := hideM (X10.out.below hb11)
  have Y11 := hideM (Y10.out.below hb11)
  have I11 := hideM (I10.out.below hb11)
  have G11 := hideM (G10.out.below hb11 (World.block_lt_of_cell? _ _ G10.out.c0))
  have z11 : w10.heap.size ≤ w11.heap.size := hb11.size
  clear hb11 e11 R10 A10 L10 W10 X10 Y10 I10 G10
  go_wp2_with fail
  refine (toByteS_any bo cb d w11 (HD.out.below L11.out) (by omega)).mono ?_
  rintro e w12 ⟨rfl, ho12, hb12⟩
  have z12 : w11.heap.size < w12.heap.size := ((OwnsB.mine (e := 5) ho12).lies _ rfl).2.1
  have R12 := hideM (Row.owned ho12)
  have A12 := hideM (A11.out.below hb12)
  have L12 := hideM (L11.out.trans (hb12.mono L11.out.size))
  have W12 := hideM (W11.out.below hb12 (World.block_lt_of_cell? _ _ W11.out.c0))
  have X12 := hideM (X11.out.below hb12)
  have Y12 := hideM (Y11.out.below hb12)
  have I12 := hideM (I11.out.below hb12)
  have G12 := hideM (G11.out.below hb12 (World.block_lt_of_cell? _ _ G11.out.c0))
  clear ho12 hb12 A11 L11 W11 X11 Y11 I11 G11
  go_wp2_with fail
  refine (eqByteS_any _ _ _ _ d d w12 Y12.out.row R12.out (by omega)).mono ?_
  rintro e w13 ⟨rfl, q13, e13⟩
  have hb13 : Below w12.heap.size w12 w13 := by rw [e13]; exact below_drewN' _ _ _
  rw [decide_eq_true rfl]
  have A13 := hideM (A12.out.below hb13)
  have L13 := hideM (L12.out.trans (hb13.mono L12.out.size))
  have W13 := hideM (W12.out.below hb13 (World.block_lt_of_cell? _ _ W12.out.c0))
  have X13 := hideM (X12.out.below hb13)
  have Y13 := hideM (Y12.out.below hb13)
  have I13 := hideM (I12.out.below hb13)
  have G13 := hideM (G12.out.below hb13 (World.block_lt_of_cell? _ _ G12.out.c0))
  have z13 : w12.heap.size ≤ w13.heap.size := hb13.size
  clear hb13 e13 R12 A12 L12 W12 X12 Y12 I12 G12
  go_wp2_with fail
  refine (markByteS_any _ _ zs 1 w13 X13.out.row X13.out.free (by omega) (by omega)).mono ?_
  rintro e w14 ⟨rfl, _, _, hg14, hz14⟩
  have hb14 : Below w4.heap.size w13 w14 := (Below.refl _ _).grown hg14 (by omega) (fun k e => by simp [blk] at e; omega)
  have L14 := hideM (L13.out.trans (hb14.mono (by omega)))
  have A14 := hideM (A13.out.beneathI hb14 (fun ad e h => by have := HWA.out ad e h; omega))
  have W14 := hideM (W13.out.below hb14 (by omega))
  have I14 := hideM (I13.out.grown hg14 (fun k e e2 => by have := I13.out.based k e2; simp [blk] at e; omega))
  have G14 := hideM (G13.out.far hg14 (by simp [blk]; omega))
  have Y14 := hideM (Y13.out.grown hg14 (fun k e e2 => by simp [blk] at e e2; omega))
  clear hg14 hb14 A13 L13 W13 X13 I13 G13 Y13
  go_wp2_with fail
  refine (markByteS_any _ _ d (1 + zs.length) w14 Y14.out.row Y14.out.free (by omega) (by omega)).mono ?_
  rintro e w15 ⟨rfl, _, _, hg15, hz15⟩
  have hb15 : Below w5.heap.size w14 w15 := (Below.refl _ _).grown hg15 (by omega) (fun k e => by simp [blk] at e; omega)
  have L15 := hideM (L14.out.trans (hb15.mono (by omega)))
  have A15 := hideM (A14.out.beneathI hb15 (fun ad e h => by have := HWA.out ad e h; omega))
  have W15 := hideM (W14.out.below hb15 (by omega))
  have I15 := hideM (I14.out.grown hg15 (fun k e e2 => by have := I14.out.based k e2; simp [blk] at e; omega))
  have G15 := hideM (G14.out.far hg15 (by simp [blk]; omega))
  clear hg15 hb15 A14 L14 W14 Y14 I14 G14
  have hk : decide (((1 + zs.length + d.length : Nat) : Int) < 0) = false := decide_eq_false (by omega)
  have hk2 : decide ((1 : Int) + (zs.length : Int) + (d.length : Int) < 0) = false := decide_eq_false (by omega)
  have z15 : w7.heap.size < w15.heap.size := by omega
  obtain ⟨p0, p1, p2, _⟩ := G15.out
  obtain ⟨q0, q1, q2, _⟩ := W15.out
  go_wp2_with fail
  clear p0 p1 p2 q0 q1 q2
  refine (eqInf_same K N aG aW cG cW OUT w15 I15.out.mine.row A15.out (by omega)).mono ?_
  rintro e w16 ⟨rfl, hb16⟩
  have A16 := hideM (A15.out.below hb16)
  have L16 := hideM (L15.out.trans (hb16.mono L15.out.size))
  have W16 := hideM (W15.out.below hb16 (World.block_lt_of_cell? _ _ W15.out.c0))
  have I16 := hideM (I15.out.below hb16)
  have G16 := hideM (G15.out.below hb16 (World.block_lt_of_cell? _ _ G15.out.c0))
  have z16 : w15.heap.size ≤ w16.heap.size := hb16.size
  clear hb16 A15 L15 W15 I15 G15
  clear hk hk2
  obtain ⟨p0, p1, p2, _⟩ := G16.out
  go_wp2_with fail
  clear p0 p1 p2
  refine (markInf_any w6.heap.size K N aG cG OUT w16 I16.out (by omega) (by omega)).mono ?_
  rintro e w17 ⟨rfl, hin17, hb17, hk17⟩
  have I17 := hideM hin17
  have L17 := hideM (L16.out.trans (hb17.mono (by omega)))
  have A17 := hideM (A16.out.beneathI hb17 (fun ad e h => by have := HWA.out ad e h; omega))
  have W17 := hideM (W16.out.below hb17 (by omega))
  have G17 := hideM (G16.out.same (hk17 w7.heap.size (by omega) (fun e => by have := HGA.out _ e; omega)))
  have z17 : w16.heap.size ≤ w17.heap.size := hb17.size
  clear hin17 hb17 hk17 L16 A16 W16 I16 G16
  obtain ⟨p0, p1, p2, _⟩ := G17.out
  go_wp2_with fail
  clear p0 p1 p2
  refine (heldInf_any K N aG cG OUT.length w17 I17.out (by omega)).mono ?_
  rintro e w18 ⟨rfl, hb18⟩
  have A18 := hideM (A17.out.below hb18)
  have L18 := hideM (L17.out.trans (hb18.mono L17.out.size))
  have W18 := hideM (W17.out.below hb18 (World.block_lt_of_cell? _ _ W17.out.c0))
  clear hb18 L17 A17 W17 I17 G17
  have hq : decide (((1 + OUT.length : Nat) : Int) < 0) = false := decide_eq_false (by omega)
  have hq2 : decide ((1 : Int) + (OUT.length : Int) < 0) = false := decide_eq_false (by omega)
  go_wp2_with fail
  refine (toByteS_any ao cap zs w18 (HR.out.below L18.out) (by omega)).mono ?_
  rintro e w19 ⟨rfl, ho19, hb19⟩
  have z19 : w18.heap.size < w19.heap.size := ((OwnsB.mine (e := 5) ho19).lies _ rfl).2.1
  have X19 := hideM (OwnsB.mine (e := 5) ho19)
  have A19 := hideM (A18.out.below hb19)
  have L19 := hideM (L18.out.trans (hb19.mono L18.out.size))
  have W19 := hideM (W18.out.below hb19 (World.block_lt_of_cell? _ _ W18.out.c0))
  clear ho19 hb19 A18 L18 W18
  clear hq hq2
  go_wp2_with fail
  refine (toByteS_any bo cb d w19 (HD.out.below L19.out) (by omega)).mono ?_
  rintro e w20 ⟨rfl, ho20, hb20⟩
  have z20 : w19.heap.size < w20.heap.size := ((OwnsB.mine (e := 5) ho20).lies _ rfl).2.1
  have Y20 := hideM (OwnsB.mine (e := 5) ho20)
  have A20 := hideM (A19.out.below hb20)
  have L20 := hideM (L19.out.trans (hb20.mono L19.out.size))
  have W20 := hideM (W19.out.below hb20 (World.block_lt_of_cell? _ _ W19.out.c0))
  have X20 := hideM (X19.out.below hb20)
  clear ho20 hb20 A19 L19 W19 X19
  go_wp2_with fail
  refine (HI.out w20 _ _ X20.out.row (by dsimp only; omega) Y20.out.row (by dsimp only; omega) (HG.out.below L20.out hGs)).mono ?_
  rintro e w21 ⟨aH, cH, rfl, hin21, hb21⟩
  have I21 := hideM hin21
  have A21 := hideM (A20.out.below hb21)
  have L21 := hideM (L20.out.trans (hb21.mono L20.out.size))
  have W21 := hideM (W20.out.below hb21 (World.block_lt_of_cell? _ _ W20.out.c0))
  clear hb21 hin21 L20 A20 W20 X20 Y20
  have E22 := hideM (rs3v_new w21 (.int .i64 K) (.slice aH OUT.length cH) (.int .i64 N) 24)
  have hb22 : Below w21.heap.size w21 (w21.alloc (.cells #[.int .i64 K, .slice aH OUT.length cH, .int .i64 N] 24)) := (Below.refl _ _).alloc (Nat.le_refl _) _
  have G22 := E22
  have A22 := hideM (A21.out.below hb22)
  have L22 := hideM (L21.out.trans (hb22.mono L21.out.size))
  have W22 := hideM (W21.out.below hb22 (World.block_lt_of_cell? _ _ W21.out.c0))
  have I22 := hideM (I21.out.below hb22)
  clear E22 L21 A21 W21 I21
  go_upto_region 29 with fail
  have z22 : w21.heap.size < (w21.alloc (.cells #[.int .i64 K, .slice aH OUT.length cH, .int .i64 N] 24)).heap.size := World.block_lt_of_cell? _ _ G22.out.c0
  have y22 : w3.heap.size < (w21.alloc (.cells #[.int .i64 K, .slice aH OUT.length cH, .int .i64 N] 24)).heap.size := World.block_lt_of_cell? _ _ W22.out.c0
  generalize (w21.alloc (.cells #[.int .i64 K, .slice aH OUT.length cH, .int .i64 N] 24)) = w22 at *
  clear hb22
  obtain ⟨p0, p1, p2, _⟩ := G22.out
  obtain ⟨q0, q1, q2, _⟩ := W22.out
  go_wp2_with fail
  clear p0 p1 p2 q0 q1 q2
  refine (eqInf_same K N aH aW cH cW OUT w22 I22.out.mine.row A22.out (by omega)).mono ?_
  rintro e w23 ⟨rfl, hb23⟩
  have L23 := hideM (L22.out.trans (hb23.mono L22.out.size))
  have z23 : w22.heap.size ≤ w23.heap.size := hb23.size
  clear hb23 L22
  go_wp2_with fail
  go_ret
  exact ⟨rfl, L23.out⟩
end Go.Proofs.YtlfabilmilkboaaGreatDoor
namespace Go.Proofs.YtlfabilmilkboaaGreatDoor.fnExactInflate
open Go.ChangeShapes Go.WideShapes Go.ChangeAt Go.RowKit Go.Joins
open Go.ChangeMaps (open_string shut_string)
set_option linter.unusedVariables false

theorem own : ownKnob Tryz.prog.godebug = none := by kernel_rfl
theorem laidOut : laidOutB Tryz.prog = true := by kernel_rfl
/-- What the walk is told of a slice of bytes that came in. -/
def IsRow (w : World) (a : Option Addr) (cap : Nat) (zs : List Int) : Prop :=
  zs.length ≤ cap ∧ cap ≤ maxLen ∧ (a = none → cap = 0) ∧ Row w a zs ∧ Octets zs

theorem open_row {H : Type} {enc : TypeId × Value → H} {W : World} {base : Nat} {sp : Nat → Bool} {held : Bool} {fuel : Nat} {cs : List Value} {x : DataW H × List MemPlace} (hf : DataW.trod enc Tryz.prog W base sp held fuel 22 cs = some x) :
    ∃ a cap zs, cs = [.slice a zs.length cap] ∧ IsRow W a cap zs := by
  rcases open_ints Tryz.underlying22 Tryz.underlying5 (by kernel_rfl) hf with ⟨hcs, _⟩ | ⟨x, l, c, zs, hcs, _, hl, hm, hz, _, hcell, hwz⟩
  · exact ⟨none, 0, [], hcs, Nat.le_refl _, Nat.zero_le _, fun _ => rfl, Row.nil _ _, fun z hz => by cases hz⟩
  · have hlz : l ≤ zs.length := by rw [hz]; split <;> omega
    have e1 : (zs.take l).length = l := by rw [List.length_take]; omega
    refine ⟨some x, c, zs.take l, by rw [e1]; exact hcs, by rw [e1]; exact hl, hm, fun e => (by cases e), ?_, ?_⟩
    · intro i hi
      rw [e1] at hi
      obtain ⟨b, off, spot⟩ := x
      have hc := hcell i (by omega)
      have hspot : spot = none := by
        have h0 := hcell 0 (by omega)
        simpa [Addr.add] using World.cell?_spot h0
      subst hspot
      refine ⟨b, off, rfl, ?_⟩
      rw [Addr.add_lit] at hc
      rw [hc]
      simp [List.getD, hi]
    · intro z hz
      exact bounds_u8 (hwz z (List.mem_of_mem_take hz))

/-! ### THE WALK -/

/-! ### WHAT THE LISTED VARIABLES GIVE -/
theorem oneRow : ((List.range Tryz.prog.types.size).filter fun t => Tryz.prog.rowNamed t [101, 114, 114, 111, 114]) = [79] := by kernel_rfl
theorem c1 : Tryz.prog.cellsOf 2 = 1 := by kernel_rfl
theorem ordAt (k : Nat) (h : k < 19) (l : List (DataW Unit)) (hl : DataW.agg l = Rows.laid_loop_example_s02972_impl_codeOrder) : l[k]? = some (.lit (.int .i64 ((ord19 k : Nat) : Int))) := by
  have hl2 : l = [.lit (.int .i64 16), .lit (.int .i64 17), .lit (.int .i64 18), .lit (.int .i64 0), .lit (.int .i64 8), .lit (.int .i64 7), .lit (.int .i64 9), .lit (.int .i64 6), .lit (.int .i64 10), .lit (.int .i64 5), .lit (.int .i64 11), .lit (.int .i64 4), .lit (.int .i64 12), .lit (.int .i64 3), .lit (.int .i64 13), .lit (.int .i64 2), .lit (.int .i64 14), .lit (.int .i64 1), .lit (.int .i64 15)] := by
    unfold Rows.laid_loop_example_s02972_impl_codeOrder at hl
    injection hl
  subst hl2
  have h3 : k = 0 ∨ k = 1 ∨ k = 2 ∨ k = 3 ∨ k = 4 ∨ k = 5 ∨ k = 6 ∨ k = 7 ∨ k = 8 ∨ k = 9 ∨ k = 10 ∨ k = 11 ∨ k = 12 ∨ k = 13 ∨ k = 14 ∨ k = 15 ∨ k = 16 ∨ k = 17 ∨ k = 18 := by omega
  rcases h3 with rfl | rfl | rfl | rfl | rfl | rfl | rfl | rfl | rfl | rfl | rfl | rfl | rfl | rfl | rfl | rfl | rfl | rfl | rfl <;> rfl
theorem of_laid {W : World} (h : laidMetH Tryz.prog Rows.fnExactInflateRow.laid W) : Glob W := by
  have h' : laidMet Tryz.prog (Rows.fnExactInflateRow.laid.filter fun x => x.2.handleName?.isNone) W ∧ handlesMet Tryz.prog (Rows.fnExactInflateRow.laid.filter fun x => x.2.handleName?.isSome) W := h
  obtain ⟨hd, hh⟩ := h'
  have hg0 : W.cell? ⟨0, 0, none⟩ = some (.iface 161 (.agg #[.pointer (some ⟨2, 79, none⟩)])) := by
    obtain ⟨name, u, ty, e1, e2, e3, e4, e5⟩ := hh _ (List.mem_singleton.2 rfl)
    have en : name = [101, 114, 114, 111, 114] := (Option.some.inj e1).symm
    subst en
    obtain rfl : u = 161 := Option.some.inj (e2.symm.trans (by kernel_rfl))
    have hm : ty ∈ (List.range Tryz.prog.types.size).filter fun t => Tryz.prog.rowNamed t [101, 114, 114, 111, 114] := List.mem_filter.2 ⟨List.mem_range.2 e3, e4⟩
    rw [oneRow] at hm
    obtain rfl := List.mem_singleton.1 hm
    have hh : typeHandle Tryz.prog 79 = .pointer (some ⟨2, 79, none⟩) := by kernel_rfl
    rw [hh] at e5
    simpa using World.var?_cell (g := 0) (by kernel_rfl) e5 0
  obtain ⟨ps, ⟨g, t, cs, fuel, p, q, hg, ht, hv, hdt, _, _⟩, _, _⟩ := hd
  obtain rfl : g = 1 := Option.some.inj (hg.symm.trans (by kernel_rfl))
  obtain rfl : t = 53 := Option.some.inj (ht.symm.trans (by kernel_rfl))
  have hg1 : ∀ k, k < 19 → W.cell? ⟨1, k, none⟩ = some (.int .i64 (ord19 k : Nat)) := by
    intro k hk
    obtain ⟨xs, m, rfl, hx, hlen, hn, hel⟩ := DataW.trod_array Tryz.underlying53 hdt
    simp only [Prod.mk.injEq] at hx
    have ho := ordAt k hk _ hx.1.symm
    rw [List.getElem?_map] at ho
    have h1 := hel k hk
    cases hxk : xs[k]? with
    | none => rw [hxk] at ho; cases ho
    | some y =>
      rw [hxk] at ho h1
      obtain ⟨n, e1, e2, _⟩ := DataW.trod_int Tryz.underlying2 h1
      rw [e2] at ho
      have hnk : n = ((ord19 k : Nat) : Int) := by
        simp only [Option.map_some, Option.some.injEq, DataW.lit.injEq, Lit.int.injEq, true_and] at ho
        exact ho
      rw [c1] at e1
      rw [World.var?_cell hg hv k, ← Array.getElem?_toList]
      have h2 : (cs.toList.drop (k * 1)).take 1 = [.int .i64 n] := e1
      rw [Nat.mul_one] at h2
      have h3 : ((cs.toList.drop k).take 1)[0]? = some (.int .i64 n) := by rw [h2]; rfl
      rw [List.getElem?_take_of_lt (by decide), List.getElem?_drop, Nat.add_zero] at h3
      rw [h3, hnk]
  refine ⟨?_, hg0, hg1⟩
  have b0 := World.block_lt_of_cell? W _ hg0
  have b1 := World.block_lt_of_cell? W _ (hg1 0 (by decide))
  dsimp only at b0 b1
  omega
/-- The door's own heap meets the condition. -/
theorem door_met (os : Os) (args : Array Value) : laidMetH Tryz.prog Rows.fnExactInflateRow.laid ((World.doorLaid Tryz.prog 400 os).forCall (fun _ _ => 0) ⟨#[], args, []⟩).memory :=
  laidMetH_of_parts (laidMet_of_run' 8 (by kernel_rfl) (by kernel_rfl)) (by kernel_rfl)

theorem walk (a0 : Option Addr) (cap0 : Nat) (z0 : List Int) (a1 : Int) (a2 : Option Addr) (cap2 : Nat) (z2 : List Int) (w : World) (w0 : IsRow w a0 cap0 z0) (w1 : (Lit.int .i64 a1).wf = true) (w2 : IsRow w a2 cap2 z2) (hG : Glob w) :
    Calls Tryz.prog 3 #[.slice a0 z0.length cap0, .int .i64 a1, .slice a2 z2.length cap2] w fun e w' => e = .returned (.bool true) ∧ Below w.heap.size w w' := by
  obtain ⟨h1, h2, h3, h4, h5⟩ := w0
  obtain ⟨g1, g2, g3, g4, g5⟩ := w2
  by_cases hn : z0.length ≤ 1048576
  · by_cases hm : z2.length ≤ 1048576
    · have hw := bounds_i64 w1
      exact lawIn a0 a2 cap0 cap2 z0 z2 a1 w h4 g4 h5 hn hm hw.1 hw.2 hG
    · exact lawIn_big2 a0 a2 z0.length cap0 z2.length cap2 a1 w hn (by unfold maxLen at g2; omega) (by omega)
  · exact lawIn_big1 a0 a2 z0.length cap0 z2.length cap2 a1 w (by unfold maxLen at h2; omega) (by omega)

/-! ### THE ROW's STEP -/
set_option maxRecDepth 100000 in
theorem lifted (os : Os) (started : os.Started) (H : Type) (enc : TypeId × Value → H) :
    ReturnsInHanded {} Tryz.checked os 3 .any (fun w args => (Rows.fnExactInflateSpec.pre enc Tryz.prog Tryz.f3 [] false w args ∧ laidMetH Tryz.prog Rows.fnExactInflateRow.laid w) ∧ sizedMet enc Tryz.prog Tryz.f3 (OpenSpec.ofChange Rows.fnExactInflateSpec) false w args)
      (Rows.fnExactInflateSpec.post enc Tryz.prog Tryz.f3 false true false false) := by
  refine returnsInHanded_of_change_and (C := Tryz.checked) (X := fun w _ => laidMetH Tryz.prog Rows.fnExactInflateRow.laid w) (fun _ _ _ hh h => h.of_heap hh) own started (by kernel_rfl) Tryz.func3
    (ChangeSpec.witness_shaped (enc := enc) (C := Tryz.checked) (os := os) (X := fun w _ => laidMetH Tryz.prog Rows.fnExactInflateRow.laid w) false (World.doorLaid Tryz.prog 400 os) #[.slice none 0 0, .int .i64 0, .slice none 0 0] 8 rfl (World.shaped_of_RefB (by kernel_rfl) (by kernel_rfl)) (by kernel_rfl) (by kernel_rfl) (by kernel_rfl) (door_met os _)) ?_
  intro W base args ds gs before hval0 hW _ _ hL _
  have hval : ∀ (j : Nat) t v, Tryz.f3.params[j]? = some t → args[j]? = some v → Value.okWide Tryz.prog W .any base t v := hval0
  have hW' := hW
  obtain ⟨p, q, hA0, hV0, rfl, hfz, hnd⟩ := hW
  have hA : DataW.TrodAll enc Tryz.prog W 0 (fun _ => true) true Tryz.f3.params.toList args.toList ds p := hA0
  have hV : DataW.TrodVars enc Tryz.prog W (fun _ => true) Rows.fnExactInflateSpec.vars gs q := hV0
  rw [Tryz.params3] at hA hval
  obtain ⟨v0, vs0, d0, ds0, p0, q0, hargs, rfl, rfl, h0, r0⟩ := trodAll_cons hA
  obtain ⟨v1, vs1, d1, ds1, p1, q1, rfl, rfl, rfl, h1, r1⟩ := trodAll_cons r0
  obtain ⟨v2, vs2, d2, ds2, p2, q2, rfl, rfl, rfl, h2, r2⟩ := trodAll_cons r1
  obtain ⟨rfl, rfl, rfl⟩ := trodAll_nil r2
  obtain rfl : args = #[v0, v1, v2] := by cases args; simp_all
  have k0 := h0
  have lt0 : ∀ x ∈ p0, x.block < W.heap.size := by obtain ⟨m, hm⟩ := k0; exact DataW.trod_lt m _ _ _ hm
  obtain ⟨aa0, len0, cc0, rfl⟩ := okWide_slice Tryz.underlying22 (hval 0 22 v0 rfl rfl)
  obtain ⟨a0, cap0, z0, e00, w0⟩ : ∃ a cap zs, [Value.slice aa0 len0 cc0] = [.slice a zs.length cap] ∧ IsRow W a cap zs := by
    obtain ⟨fuel, hf⟩ := h0
    exact open_row (by simpa [Value.cells] using hf)
  simp only [List.cons.injEq, and_true, Value.slice.injEq] at e00
  obtain ⟨rfl, rfl, rfl⟩ := e00
  have k2 := h2
  have lt2 : ∀ x ∈ p2, x.block < W.heap.size := by obtain ⟨m, hm⟩ := k2; exact DataW.trod_lt m _ _ _ hm
  obtain ⟨aa2, len2, cc2, rfl⟩ := okWide_slice Tryz.underlying22 (hval 2 22 v2 rfl rfl)
  obtain ⟨a2, cap2, z2, e02, w2⟩ : ∃ a cap zs, [Value.slice aa2 len2 cc2] = [.slice a zs.length cap] ∧ IsRow W a cap zs := by
    obtain ⟨fuel, hf⟩ := h2
    exact open_row (by simpa [Value.cells] using hf)
  simp only [List.cons.injEq, and_true, Value.slice.injEq] at e02
  obtain ⟨rfl, rfl, rfl⟩ := e02
  obtain ⟨a1, rfl, rfl, rfl, w1⟩ := open_int Tryz.underlying2 (hval 1 2 v1 rfl rfl) h1
  have hG := of_laid hL
  obtain ⟨gd, rfl⟩ : ∃ gd, gs = [gd] := by
    obtain ⟨_, _, _, _, d, _, e, _⟩ := trodVars_one (n := Rows.fnExactInflateSpec.vars.headD Rows.fnExactInflateSpec.name) hV
    exact ⟨d, e⟩
  clear hA0 hval0
  refine (walk _ _ z0 a1 _ _ z2 W w0 w1 w2 hG).mono fun e W' ⟨he, bel⟩ => ?_
  subst he
  exact ⟨_, rfl, _, _, _, [], _, _, hW', trodAll_mk1 (shut_bool Tryz.underlying4 _), (trodAll_cons_mk (Below.trod laidOut (by kernel_rfl) (of_decide_eq_true (by kernel_rfl)) k0 bel lt0) (trodAll_cons_mk (shut_int Tryz.underlying2 w1) (trodAll_cons_mk (Below.trod laidOut (by kernel_rfl) (of_decide_eq_true (by kernel_rfl)) k2 bel lt2) trodAll_mk0))), Below.trodVars laidOut bel (by kernel_rfl) hV, bel.frame _, fun h => by cases h⟩

theorem over : Rows.FnExactInflateSaid :=
  OpenClaim.holds_of_wide 3 Tryz.f3 rfl rfl rfl rfl rfl rfl rfl ⟨rfl, rfl, rfl, rfl, rfl⟩ rfl rfl rfl rfl rfl (by kernel_rfl) Tryz.func3 (by kernel_rfl)
    (of_decide_eq_true (by kernel_rfl)) (by unfold Func.isWrapper; first | (rw [if_pos (by decide +kernel)]; kernel_rfl) | (rw [if_neg (by decide +kernel)]; exact ⟨rfl, rfl⟩))
    (fun os started H enc _ => lifted os started H enc)

theorem looks (f : FuncId) (fn : Func) (hf : Tryz.prog.funcNamed Rows.fnExactInflateRow.func = some f) (hfn : Tryz.prog.funcs[f]? = some fn) : true = Tryz.prog.looks [] ∧ ∀ (j : Nat) t, fn.params[j]? = some t → Tryz.prog.wantsStandIn t = false := by
  obtain rfl : f = 3 := Option.some.inj ((show Tryz.prog.funcNamed Rows.fnExactInflateRow.func = some 3 by kernel_rfl).symm.trans hf) |>.symm
  obtain rfl : fn = Tryz.f3 := (Option.some.inj (Tryz.func3.symm.trans hfn)).symm
  refine ⟨by kernel_rfl, fun j t ht => ?_⟩
  rw [Tryz.params3] at ht
  have hm : t ∈ [22, 2, 22] := by simpa using Array.mem_of_getElem? ht
  have hall : ([22, 2, 22].all fun u => !Tryz.prog.wantsStandIn u) = true := by kernel_rfl
  exact (show Tryz.prog.wantsStandIn t = false by simpa using List.all_eq_true.1 hall t hm)
/-- THE CARD -/
theorem proved : Rows.FnExactInflateCardSaid :=
  ⟨Claim7.tied_new_at .later [.handle, .data] true (Claim7.new_of_sixth over Rows.fnExactInflateCard.stood.harness true rfl ⟨rfl, rfl⟩ (by kernel_rfl) (by kernel_rfl) looks) (by kernel_rfl), (fun D hD => by cases hD), fnExactInflate_row_tie, (fun h => by cases h), by kernel_rfl⟩
#print axioms proved
end Go.Proofs.YtlfabilmilkboaaGreatDoor.fnExactInflate
