import Derived.Deep.RegionHeld3
import Derived.Test.YtbddkkfakkedaaaGreatDoorMAI
import Derived.Test.YtbddkkfakkedaaaGreatDoorMAV
import Derived.Test.YtbddkkfakkedaaaGreatDoorMAW
import Derived.Test.YtbddkkfakkedaaaGreatDoorMBV
namespace Go.Proofs.YtbddkkfakkedaaaGreatDoor
open Go.RowKit
attribute [local go_sem ↓] Go.wp_at_zero Go.wp_at_succ
set_option linter.unusedVariables false

set_option maxRecDepth 100000 in
set_option maxHeartbeats 3200000 in
theorem highFirst_yes (z q p hB : Nat) (zs : List Int) (i : Nat) (w : World) (hz0 : w.cell? ⟨z, 0, none⟩ = some (.pointer (some ⟨q, 0, none⟩))) (hm : w.cell? ⟨q, 0, none⟩ = some (.pointer (some ⟨p, 0, none⟩))) (h : Rd w p hB zs i) (hz : Octets zs) (hzl : zs.length ≤ 65536) (hn : i + 32 ≤ 8 * zs.length) :
    Calls Tryz.prog 89 #[.pointer (some ⟨z, 0, none⟩)] w fun e w' => e = .returned (.tuple #[.int .u32 (rb4 (field (bnum zs) i 32) : Nat), .nilIface]) ∧ Rd w' p hB zs (i + 32) ∧ w.grownBy w' (some p) := by
  have HN := hideM (number_yes q p hB zs i 32 w hm h hz hzl (by decide) hn)
  have hF : field (bnum zs) i 32 < 4294967296 := field_lt _ _ _
  have hzw := World.block_lt_of_cell? w _ hz0
  have hqw := World.block_lt_of_cell? w _ hm
  generalize field (bnum zs) i 32 = F at *
  have HR := hideM (fun W => revb_any F hF W)
  have hcv : IntKind.u32.wrap (F : Int) = (F : Int) := by rw [IntKind.wrap_u32]; omega
  have hcm : (F : Int) % 4294967296 = (F : Int) := by omega
  clear h
  go_enter Tryz.func89, Tryz.ntmps89
  go_wp2_with fail
  refine Calls.mono HN.out ?_
  rintro e w1 ⟨rfl, hR, hg⟩
  have R1 := hideM hR
  have G1 := hideM hg
  clear hR hg HN
  go_wp2_with fail
  refine Calls.mono (HR.out _) ?_
  rintro e w2 ⟨rfl, hw2⟩
  obtain rfl := hw2.symm
  go_wp2_with fail
  go_ret2
  exact ⟨rfl, R1.out, G1.out⟩
set_option maxRecDepth 100000 in
set_option maxHeartbeats 3200000 in
theorem highFirst_no (z q p hB : Nat) (zs : List Int) (i : Nat) (w : World) (hz0 : w.cell? ⟨z, 0, none⟩ = some (.pointer (some ⟨q, 0, none⟩))) (hm : w.cell? ⟨q, 0, none⟩ = some (.pointer (some ⟨p, 0, none⟩))) (h : Rd w p hB zs i) (hzl : zs.length ≤ 65536) (hn : ¬ i + 32 ≤ 8 * zs.length) :
    Calls Tryz.prog 89 #[.pointer (some ⟨z, 0, none⟩)] w fun e w' => e = .returned (.tuple #[.int .u32 0, flt 2]) ∧ Below w.heap.size w w' := by
  have HN := hideM (number_no q p hB zs i 32 w hm h hzl (by decide) hn)
  have hzw := World.block_lt_of_cell? w _ hz0
  have hqw := World.block_lt_of_cell? w _ hm
  have HR := hideM (fun W => revb_any 0 (by decide) W)
  rw [show rb4 0 = 0 from rfl] at HR
  clear h
  go_enter Tryz.func89, Tryz.ntmps89
  go_wp2_with fail
  refine Calls.mono HN.out ?_
  rintro e w1 ⟨rfl, hb⟩
  have B1 := hideM hb
  clear hb HN
  go_wp2_with fail
  refine Calls.mono (HR.out _) ?_
  rintro e w2 ⟨rfl, hw2⟩
  obtain rfl := hw2.symm
  go_wp2_with fail
  go_ret2
  exact ⟨rfl, B1.out⟩
end Go.Proofs.YtbddkkfakkedaaaGreatDoor
namespace Go.Proofs.YtbddkkfakkedaaaGreatDoor
open Go.RowKit
variable {KH : Nat → Option Obj}
attribute [local go_sem ↓] Go.wp_at_zero Go.wp_at_succ
set_option linter.unusedVariables false

/-- What the two bytes of a head say, the first byte the lower one: whether they are wrong, the window, whether a dictionary is wanted. -/
def zbad (F : Nat) : Bool := decide ((256 * (F % 256) + F / 256) % 31 ≠ 0 ∨ F % 256 % 16 ≠ 8 ∨ 7 < F % 256 / 16)
def zsz (F : Nat) : Nat := 2 ^ (F % 256 / 16 + 8)
def zdic (F : Nat) : Bool := bits .and .i64 ((F / 256 : Nat) : Int) 32 != 0
theorem zsz_bd {F : Nat} (h : zbad F = false) : 0 < zsz F ∧ zsz F ≤ 32768 := by
  have h2 := of_decide_eq_false h
  have hi : F % 256 / 16 ≤ 7 := by omega
  unfold zsz
  exact ⟨Nat.two_pow_pos _, Nat.le_trans (Nat.pow_le_pow_right (by decide) (show F % 256 / 16 + 8 ≤ 15 by omega)) (by decide)⟩
def zDict (z : Nat) : Value := .func (Fn.func 86) #[.pointer (some ⟨z, 0, none⟩)] #[]
set_option maxRecDepth 100000 in
set_option maxHeartbeats 3200000 in
theorem head_no (z q p hB : Nat) (zs : List Int) (i : Nat) (w : World) (hz0 : w.cell? ⟨z, 0, none⟩ = some (.pointer (some ⟨q, 0, none⟩))) (hm : w.cell? ⟨q, 0, none⟩ = some (.pointer (some ⟨p, 0, none⟩))) (h : Rd w p hB zs i) (hzl : zs.length ≤ 65536) (hn : ¬ i + 16 ≤ 8 * zs.length) :
    Calls Tryz.prog 51 #[.pointer (some ⟨z, 0, none⟩)] w fun e w' => e = .returned (.tuple #[.nilFunc, flt 2]) ∧ Below w.heap.size w w' := by
  have HN := hideM (number_no q p hB zs i 16 w hm h hzl (by decide) hn)
  have hzw := World.block_lt_of_cell? w _ hz0
  have hqw := World.block_lt_of_cell? w _ hm
  clear h
  unfold flt at HN
  go_enter Tryz.func51, Tryz.ntmps51
  go_wp2_with fail
  refine Calls.mono HN.out ?_
  rintro e w1 ⟨rfl, hb⟩
  have B1 := hideM hb
  clear hb HN
  go_wp2_with fail
  exact bodyPost_ret (v := .tuple #[.nilFunc, flt 2]) (by simp [results, Tryz.results51, go_sem, flt]) rfl ⟨rfl, B1.out⟩
set_option maxRecDepth 100000 in
set_option maxHeartbeats 3200000 in
theorem head_bad (z q p hB : Nat) (zs : List Int) (i : Nat) (w : World) (hz0 : w.cell? ⟨z, 0, none⟩ = some (.pointer (some ⟨q, 0, none⟩))) (hm : w.cell? ⟨q, 0, none⟩ = some (.pointer (some ⟨p, 0, none⟩))) (h : Rd w p hB zs i) (hz : Octets zs) (hzl : zs.length ≤ 65536) (hn : i + 16 ≤ 8 * zs.length) (hbad : zbad (field (bnum zs) i 16) = true) :
    Calls Tryz.prog 51 #[.pointer (some ⟨z, 0, none⟩)] w fun e w' => e = .returned (.tuple #[.nilFunc, flt 3]) ∧ Rd w' p hB zs (i + 16) ∧ w.grownBy w' (some p) := by
  have HN := hideM (number_yes q p hB zs i 16 w hm h hz hzl (by decide) hn)
  have hF : field (bnum zs) i 16 < 65536 := field_lt _ _ _
  have hzw := World.block_lt_of_cell? w _ hz0
  have hqw := World.block_lt_of_cell? w _ hm
  generalize field (bnum zs) i 16 = F at *
  obtain ⟨M, hM⟩ : ∃ M, F % 256 = M := ⟨_, rfl⟩
  obtain ⟨G, hG⟩ : ∃ G, F / 256 = G := ⟨_, rfl⟩
  obtain ⟨I, hI⟩ : ∃ I, M / 16 = I := ⟨_, rfl⟩
  have hb := of_decide_eq_true hbad
  rw [hM, hG, hI] at hb
  have hMi : (F : Int) % 256 = (M : Int) := by omega
  have hGi : (F : Int) / 256 = (G : Int) := by omega
  have hIi : (M : Int) / 16 = (I : Int) := by omega
  have hMl : M < 256 := by omega
  have hGl : G < 256 := by omega
  clear h hbad hM hG hI
  by_cases c1 : (256 * M + G) % 31 = 0
  · by_cases c2 : M % 16 = 8
    · have d1 : ((256 * (M : Int) + (G : Int)) % 31 != 0) = false := by simp; omega
      have d2 : ((M : Int) % 16 != 8) = false := by simp; omega
      have d3 : decide ((I : Int) > 7) = true := decide_eq_true (by omega)
      clear hb c1 c2
      go_enter Tryz.func51, Tryz.ntmps51
      go_wp2_with fail
      refine Calls.mono HN.out ?_
      rintro e w1 ⟨rfl, hR, hg⟩
      have R1 := hideM hR
      have G1 := hideM hg
      clear hR hg HN
      go_wp2_with fail
      exact bodyPost_ret (v := .tuple #[.nilFunc, flt 3]) (by simp [results, Tryz.results51, go_sem, flt]) rfl ⟨rfl, R1.out, G1.out⟩
    · have d1 : ((256 * (M : Int) + (G : Int)) % 31 != 0) = false := by simp; omega
      have d2 : ((M : Int) % 16 != 8) = true := by simp; omega
      clear hb c1 c2
      go_enter Tryz.func51, Tryz.ntmps51
      go_wp2_with fail
      refine Calls.mono HN.out ?_
      rintro e w1 ⟨rfl, hR, hg⟩
      have R1 := hideM hR
      have G1 := hideM hg
      clear hR hg HN
      go_wp2_with fail
      exact bodyPost_ret (v := .tuple #[.nilFunc, flt 3]) (by simp [results, Tryz.results51, go_sem, flt]) rfl ⟨rfl, R1.out, G1.out⟩
  · have d1 : ((256 * (M : Int) + (G : Int)) % 31 != 0) = true := by simp; omega
    clear hb c1
    go_enter Tryz.func51, Tryz.ntmps51
    go_wp2_with fail
    refine Calls.mono HN.out ?_
    rintro e w1 ⟨rfl, hR, hg⟩
    have R1 := hideM hR
    have G1 := hideM hg
    clear hR hg HN
    go_wp2_with fail
    exact bodyPost_ret (v := .tuple #[.nilFunc, flt 3]) (by simp [results, Tryz.results51, go_sem, flt]) rfl ⟨rfl, R1.out, G1.out⟩
/-- The frame's size is laid. -/
theorem ZCells.size {w : World} {z q : Nat} {dv : Value} {sz : Int} (h : ZCells w z q dv sz) (x : Int) : ZCells (w.setCell ⟨z, 2, none⟩ (.int .i64 x)) z q dv x :=
  ⟨(World.cell?_setCell_other _ _ _ _ (by simp)).trans h.z0, (World.cell?_setCell_other _ _ _ _ (by simp)).trans h.z1, World.cell?_setCell_same _ _ _ h.z2, fun k => by rw [World.frozen?_setCell]; exact h.zf k⟩
set_option maxRecDepth 100000 in
set_option maxHeartbeats 3200000 in
theorem head_dict (z q p hB : Nat) (zs : List Int) (i : Nat) (dv : Value) (sz : Int) (w : World) (hZ : ZCells w z q dv sz) (hzp : z ≠ p) (hm : w.cell? ⟨q, 0, none⟩ = some (.pointer (some ⟨p, 0, none⟩))) (h : Rd w p hB zs i) (hz : Octets zs) (hzl : zs.length ≤ 65536) (hn : i + 16 ≤ 8 * zs.length) (hbad : zbad (field (bnum zs) i 16) = false) (hdic : zdic (field (bnum zs) i 16) = true) :
    Calls Tryz.prog 51 #[.pointer (some ⟨z, 0, none⟩)] w fun e w' => e = .returned (.tuple #[zDict z, .nilIface]) ∧ ∃ w1, Rd w1 p hB zs (i + 16) ∧ w.grownBy w1 (some p) ∧ w' = w1.setCell ⟨z, 2, none⟩ (.int .i64 (zsz (field (bnum zs) i 16) : Nat)) := by
  have HN := hideM (number_yes q p hB zs i 16 w hm h hz hzl (by decide) hn)
  have hF : field (bnum zs) i 16 < 65536 := field_lt _ _ _
  have hz0 := hZ.z0
  have hzw := World.block_lt_of_cell? w _ hz0
  have hqw := World.block_lt_of_cell? w _ hm
  have HZ := hideM hZ
  generalize field (bnum zs) i 16 = F at *
  obtain ⟨S, hS⟩ : ∃ S, zsz F = S := ⟨_, rfl⟩
  rw [hS]
  unfold zsz at hS
  unfold zdic at hdic
  obtain ⟨M, hM⟩ : ∃ M, F % 256 = M := ⟨_, rfl⟩
  obtain ⟨G, hG⟩ : ∃ G, F / 256 = G := ⟨_, rfl⟩
  obtain ⟨I, hI⟩ : ∃ I, M / 16 = I := ⟨_, rfl⟩
  have hb := of_decide_eq_false hbad
  rw [hM, hG, hI] at hb
  rw [hG] at hdic
  rw [hM, hI] at hS
  have hMi : (F : Int) % 256 = (M : Int) := by omega
  have hGi : (F : Int) / 256 = (G : Int) := by omega
  have hIi : (M : Int) / 16 = (I : Int) := by omega
  have hMl : M < 256 := by omega
  have hGl : G < 256 := by omega
  have hIl : I ≤ 7 := by omega
  have d1 : ((256 * (M : Int) + (G : Int)) % 31 != 0) = false := by simp; omega
  have d2 : ((M : Int) % 16 != 8) = false := by simp; omega
  have d3 : decide ((I : Int) > 7) = false := decide_eq_false (by omega)
  obtain ⟨K, hK⟩ : ∃ K, I + 8 = K := ⟨_, rfl⟩
  have hKi : (I : Int) + 8 = (K : Int) := by omega
  rw [hK] at hS
  have HW : Hid (wrap64 ((2 : Int) ^ K) = (S : Int)) := by
    show _ = _
    have h1 : ((2 : Int) ^ K) = (S : Int) := by rw [← hS]; exact (Int.natCast_pow 2 K).symm
    have h2 : S ≤ 32768 := by rw [← hS]; exact Nat.le_trans (Nat.pow_le_pow_right (by decide) (show K ≤ 15 by omega)) (by decide)
    rw [h1]
    unfold wrap64
    omega
  clear h hbad hM hG hI hb
  go_enter Tryz.func51, Tryz.ntmps51
  go_wp2_with fail
  refine Calls.mono HN.out ?_
  rintro e w1 ⟨rfl, hR, hg⟩
  have R1 := hideM hR
  have G1 := hideM hg
  have Z1 := hideM (HZ.out.same (hg.block z hzw (by simpa using hzp)))
  have k2 := Z1.out.z2
  have f2 := Z1.out.zf 2
  have hzw1 := World.block_lt_of_cell? w1 _ k2
  clear hR hg HN HZ hz0
  go_upto_region 8 with fail
  clear d1 d2 d3 hMi hIi hMl
  go_upto_region 9 with fail
  rw [HW.out]
  clear HW hS hKi
  go_wp2_with fail
  exact bodyPost_ret (v := .tuple #[zDict z, .nilIface]) (by simp [results, Tryz.results51, go_sem, zDict]) rfl ⟨rfl, w1, R1.out, G1.out, rfl⟩
set_option maxRecDepth 100000 in
set_option maxHeartbeats 3200000 in
theorem head_plain (z q p hB : Nat) (zs : List Int) (i : Nat) (dv n1 a38 : Value) (sz : Int) (w : World) (hZ : ZCells w z q dv sz) (hN : INewZ w q p n1 a38) (hzp : z ≠ p) (hzq : z ≠ q) (hqp : q ≠ p) (h : Rd w p hB zs i) (hz : Octets zs) (hzl : zs.length ≤ 65536) (hn : i + 16 ≤ 8 * zs.length) (hbad : zbad (field (bnum zs) i 16) = false) (hdic : zdic (field (bnum zs) i 16) = false) :
    Calls Tryz.prog 51 #[.pointer (some ⟨z, 0, none⟩)] w fun e w' => e = .returned (.tuple #[inow q a38 7, .nilIface]) ∧ ∃ w1, Rd w1 p hB zs (i + 16) ∧ w.grownBy w1 (some p) ∧ BeginPost q p (zsz (field (bnum zs) i 16)) n1 a38 (lastN (zsz (field (bnum zs) i 16)) []) (.returned (inow q a38 7)) (w1.setCell ⟨z, 2, none⟩ (.int .i64 (zsz (field (bnum zs) i 16) : Nat))).drew w' := by
  have hm := hN.c0
  have hsb := zsz_bd hbad
  have HNZ := hideM hN
  have HN := hideM (number_yes q p hB zs i 16 w hm h hz hzl (by decide) hn)
  have hF : field (bnum zs) i 16 < 65536 := field_lt _ _ _
  have hz0 := hZ.z0
  have hzw := World.block_lt_of_cell? w _ hz0
  have hqw := World.block_lt_of_cell? w _ hm
  have HZ := hideM hZ
  generalize field (bnum zs) i 16 = F at *
  obtain ⟨S, hS⟩ : ∃ S, zsz F = S := ⟨_, rfl⟩
  rw [hS]
  unfold zsz at hS
  unfold zdic at hdic
  obtain ⟨M, hM⟩ : ∃ M, F % 256 = M := ⟨_, rfl⟩
  obtain ⟨G, hG⟩ : ∃ G, F / 256 = G := ⟨_, rfl⟩
  obtain ⟨I, hI⟩ : ∃ I, M / 16 = I := ⟨_, rfl⟩
  have hb := of_decide_eq_false hbad
  rw [hM, hG, hI] at hb
  rw [hG] at hdic
  rw [hM, hI] at hS
  have hMi : (F : Int) % 256 = (M : Int) := by omega
  have hGi : (F : Int) / 256 = (G : Int) := by omega
  have hIi : (M : Int) / 16 = (I : Int) := by omega
  have hMl : M < 256 := by omega
  have hGl : G < 256 := by omega
  have hIl : I ≤ 7 := by omega
  have d1 : ((256 * (M : Int) + (G : Int)) % 31 != 0) = false := by simp; omega
  have d2 : ((M : Int) % 16 != 8) = false := by simp; omega
  have d3 : decide ((I : Int) > 7) = false := decide_eq_false (by omega)
  obtain ⟨K, hK⟩ : ∃ K, I + 8 = K := ⟨_, rfl⟩
  have hKi : (I : Int) + 8 = (K : Int) := by omega
  rw [hK] at hS
  have HW : Hid (wrap64 ((2 : Int) ^ K) = (S : Int)) := by
    show _ = _
    have h1 : ((2 : Int) ^ K) = (S : Int) := by rw [← hS]; exact (Int.natCast_pow 2 K).symm
    have h2 : S ≤ 32768 := by rw [← hS]; exact Nat.le_trans (Nat.pow_le_pow_right (by decide) (show K ≤ 15 by omega)) (by decide)
    rw [h1]
    unfold wrap64
    omega
  have hSb : 0 < S ∧ S ≤ 32768 := by rw [← hK, ← hI, ← hM] at hS; rw [← hS]; exact hsb
  clear h hbad hM hG hI hb hsb hN
  go_enter Tryz.func51, Tryz.ntmps51
  go_wp2_with fail
  refine Calls.mono HN.out ?_
  rintro e w1 ⟨rfl, hR, hg⟩
  have R1 := hideM hR
  have G1 := hideM hg
  have Z1 := hideM (HZ.out.same (hg.block z hzw (by simpa using hzp)))
  have k2 := Z1.out.z2
  have f2 := Z1.out.zf 2
  have hzw1 := World.block_lt_of_cell? w1 _ k2
  have Z2 := hideM (Z1.out.size (S : Int))
  have g2 := grownBy_setCell w1 ⟨z, 2, none⟩ (.int .i64 (S : Int))
  have N2 := hideM (((HNZ.out.same (hg.block q hqw (by simpa using hqp))).same (g2.block q (Nat.lt_of_lt_of_le hqw hg.size) (by simpa using fun e => hzq e.symm))))
  clear hR hg HN HZ hz0 HNZ hm g2
  go_upto_region 8 with fail
  clear d1 d2 d3 hMi hIi hMl
  go_upto_region 9 with fail
  rw [HW.out]
  clear HW hS hKi
  have BG := hideM (begin_any q p S n1 a38 [] none 0 (w1.setCell ⟨z, 2, none⟩ (.int .i64 (S : Int))).drew (N2.out.same rfl) hSb.1 hSb.2 (Row.nil _ _) (Nat.le_refl _) (by unfold maxLen; omega) (fun ad e => by cases e))
  obtain ⟨W2, hW2⟩ : ∃ W2, w1.setCell ⟨z, 2, none⟩ (.int .i64 (S : Int)) = W2 := ⟨_, rfl⟩
  rw [hW2] at Z2 N2 BG ⊢
  have HW2 := hideM hW2
  have z0 := Z2.out.z0
  have z2 := Z2.out.z2
  have hz2 := World.block_lt_of_cell? W2 _ z0
  clear hW2 k2 f2 hzw1 Z1
  go_upto_region 11 with fail
  go_region_held3 (fun w' => w'.cell? ⟨z, 0, none⟩ = some (.pointer (some ⟨q, 0, none⟩)) ∧ w'.cell? ⟨z, 2, none⟩ = some (.int .i64 (S : Int)) ∧ z < w'.heap.size)
    (first | (with_reducible assumption) | (go_keep; done) | (exact ⟨by assumption, by assumption, by assumption⟩))
    ((go_at_call 87; refine Calls.mono BG.out ?_; rintro e w3 ⟨g, rfl, hR3, hT3, hg3, hgw3, hgr3⟩; have K : w3.cell? ⟨z, 0, none⟩ = some (.pointer (some ⟨q, 0, none⟩)) ∧ w3.cell? ⟨z, 2, none⟩ = some (.int .i64 (S : Int)) ∧ z < w3.heap.size := ⟨hgr3.cell (show W2.drew.cell? ⟨z, 0, none⟩ = _ from z0) (by simpa using hzq), hgr3.cell (show W2.drew.cell? ⟨z, 2, none⟩ = _ from z2) (by simpa using hzq), Nat.lt_of_lt_of_le hz2 hgr3.size⟩; obtain ⟨K1, K2, K3⟩ := K))
  have BP : Hid (BeginPost q p S n1 a38 (lastN S []) (.returned (inow q a38 7)) W2.drew w3) := ⟨g, rfl, hR3, hT3, hg3, hgw3, hgr3⟩
  clear hR3 hT3 hg3 hgw3 hgr3 K1 K2 K3 BG
  go_wp2_with fail
  exact bodyPost_ret (v := .tuple #[inow q a38 7, .nilIface]) (by simp [results, Tryz.results51, go_sem]) rfl ⟨rfl, w1, R1.out, G1.out, by rw [HW2.out]; exact BP.out⟩
end Go.Proofs.YtbddkkfakkedaaaGreatDoor
namespace Go.Proofs.YtbddkkfakkedaaaGreatDoor
open Go.RowKit
variable {KH : Nat → Option Obj}
attribute [local go_sem ↓] Go.wp_at_zero Go.wp_at_succ
set_option linter.unusedVariables false

set_option maxRecDepth 100000 in
set_option maxHeartbeats 3200000 in
theorem toldSince_zero (q n cap : Nat) (ao : Option Addr) (w : World) (h : w.cell? ⟨q, 30, none⟩ = some (.slice ao n cap)) (hn : n ≤ cap) (hc : cap ≤ maxLen) (h0 : ao = none → n = 0 ∧ cap = 0) :
    Calls Tryz.prog 90 #[.pointer (some ⟨q, 0, none⟩), .int .i64 0] w fun e w' => e = .returned (.slice ao n cap) ∧ w' = w := by
  have hqw := World.block_lt_of_cell? w _ h
  unfold maxLen at hc
  go_enter Tryz.func90, Tryz.ntmps90
  go_wp2_with fail
  go_ret
  exact ⟨rfl, rfl⟩
set_option maxRecDepth 100000 in
set_option maxHeartbeats 3200000 in
theorem dictSum_no (z q p hB : Nat) (zs : List Int) (i : Nat) (w : World) (hz0 : w.cell? ⟨z, 0, none⟩ = some (.pointer (some ⟨q, 0, none⟩))) (hm : w.cell? ⟨q, 0, none⟩ = some (.pointer (some ⟨p, 0, none⟩))) (h : Rd w p hB zs i) (hzl : zs.length ≤ 65536) (hn : ¬ i + 32 ≤ 8 * zs.length) :
    Calls Tryz.prog 86 #[.pointer (some ⟨z, 0, none⟩)] w fun e w' => e = .returned (.tuple #[.nilFunc, flt 2]) ∧ Below w.heap.size w w' := by
  have HN := hideM (highFirst_no z q p hB zs i w hz0 hm h hzl hn)
  clear h
  unfold flt at HN
  go_enter Tryz.func86, Tryz.ntmps86
  go_wp2_with fail
  refine Calls.mono HN.out ?_
  rintro e w1 ⟨rfl, hb⟩
  have B1 := hideM hb
  clear hb HN
  go_wp2_with fail
  exact bodyPost_ret (v := .tuple #[.nilFunc, flt 2]) (by simp [results, Tryz.results86, go_sem, flt]) rfl ⟨rfl, B1.out⟩
set_option maxRecDepth 100000 in
set_option maxHeartbeats 3200000 in
theorem dictSum_bad (z q p hB : Nat) (zs d : List Int) (i cb : Nat) (bo : Option Addr) (sz : Int) (w : World) (hZ : ZCells w z q (.slice bo d.length cb) sz) (hzp : z ≠ p) (hm : w.cell? ⟨q, 0, none⟩ = some (.pointer (some ⟨p, 0, none⟩))) (h : Rd w p hB zs i) (hz : Octets zs) (hzl : zs.length ≤ 65536) (hn : i + 32 ≤ 8 * zs.length)
    (hr : Row w bo d) (hd : Octets d) (hcb : d.length ≤ cb) (hld : d.length ≤ 65536) (hbp : ∀ ad, bo = some ad → ad.block ≠ p) (hbad : d = [] ∨ ((rb4 (field (bnum zs) i 32) : Nat) : Int) ≠ Adl.adl d) :
    Calls Tryz.prog 86 #[.pointer (some ⟨z, 0, none⟩)] w fun e w' => e = .returned (.tuple #[.nilFunc, flt 5]) ∧ Rd w' p hB zs (i + 32) ∧ w.grownBy w' (some p) := by
  have hz0 := hZ.z0
  have HN := hideM (highFirst_yes z q p hB zs i w hz0 hm h hz hzl hn)
  have hzw := World.block_lt_of_cell? w _ hz0
  have HZ := hideM hZ
  have HR := hideM hr
  have hRl : rb4 (field (bnum zs) i 32) < 4294967296 := rb4_lt _
  generalize rb4 (field (bnum zs) i 32) = F at *
  have AD := hideM (fun W h => adl_first bo cb d d.length rfl W h hd hcb hld)
  have HBP := hideM hbp
  by_cases he : d = []
  · subst he
    clear h hr hZ hd hbp hbad AD
    go_enter Tryz.func86, Tryz.ntmps86
    go_wp2_with fail
    refine Calls.mono HN.out ?_
    rintro e w1 ⟨rfl, hR, hg⟩
    have R1 := hideM hR
    have G1 := hideM hg
    have Z1 := hideM (HZ.out.same (hg.block z hzw (by simpa using hzp)))
    have k1 := Z1.out.z1
    have hzw1 := World.block_lt_of_cell? w1 _ k1
    clear hR hg HN HZ hz0
    go_wp2_with fail
    exact bodyPost_ret (v := .tuple #[.nilFunc, flt 5]) (by simp [results, Tryz.results86, go_sem, flt]) rfl ⟨rfl, R1.out, G1.out⟩
  · obtain ⟨Y, hY⟩ : ∃ Y : Nat, Adl.adl d = (Y : Int) := ⟨(Adl.adl d).toNat, by have := adl_bd d; omega⟩
    rw [hY] at AD hbad
    have hne : ((F : Int) != (Y : Int)) = true := by
      rcases hbad with h | h
      · exact absurd h he
      · simpa using h
    have hdl : ((d.length : Int) == 0) = false := by
      have : d.length ≠ 0 := fun h => he (List.eq_nil_of_length_eq_zero h)
      simp
      omega
    clear h hr hZ hd hbp hbad hY
    go_enter Tryz.func86, Tryz.ntmps86
    go_wp2_with fail
    refine Calls.mono HN.out ?_
    rintro e w1 ⟨rfl, hR, hg⟩
    have R1 := hideM hR
    have G1 := hideM hg
    have Z1 := hideM (HZ.out.same (hg.block z hzw (by simpa using hzp)))
    have D1 := hideM (HR.out.grown hg (fun ad e => by simpa using HBP.out ad e))
    have k1 := Z1.out.z1
    have hzw1 := World.block_lt_of_cell? w1 _ k1
    clear hR hg HN HZ hz0
    go_wp2_with fail
    refine Calls.mono (AD.out _ D1.out) ?_
    rintro e w2 ⟨rfl, hw2⟩
    obtain rfl := hw2.symm
    go_wp2_with fail
    exact bodyPost_ret (v := .tuple #[.nilFunc, flt 5]) (by simp [results, Tryz.results86, go_sem, flt]) rfl ⟨rfl, R1.out, G1.out⟩
set_option maxRecDepth 100000 in
set_option maxHeartbeats 3200000 in
theorem dictSum_ok (z q p hB S : Nat) (zs d : List Int) (i cb : Nat) (bo : Option Addr) (n1 a38 : Value) (w : World) (hZ : ZCells w z q (.slice bo d.length cb) (S : Nat)) (hN : INewZ w q p n1 a38) (hzp : z ≠ p) (hzq : z ≠ q) (hqp : q ≠ p) (h : Rd w p hB zs i) (hz : Octets zs) (hzl : zs.length ≤ 65536) (hn : i + 32 ≤ 8 * zs.length)
    (hS0 : 0 < S) (hS1 : S ≤ 32768) (hr : Row w bo d) (hd : Octets d) (hcb : d.length ≤ cb) (hcm : cb ≤ maxLen) (hld : d.length ≤ 65536) (hbp : ∀ ad, bo = some ad → ad.block ≠ p ∧ ad.block < w.heap.size) (he : d ≠ []) (hok : ((rb4 (field (bnum zs) i 32) : Nat) : Int) = Adl.adl d) :
    Calls Tryz.prog 86 #[.pointer (some ⟨z, 0, none⟩)] w fun e w' => e = .returned (.tuple #[inow q a38 7, .nilIface]) ∧ ∃ w1, Rd w1 p hB zs (i + 32) ∧ w.grownBy w1 (some p) ∧ BeginPost q p S n1 a38 (lastN S d) (.returned (inow q a38 7)) w1.drew w' := by
  have hz0 := hZ.z0
  have hm := hN.c0
  have HN := hideM (highFirst_yes z q p hB zs i w hz0 hm h hz hzl hn)
  have hzw := World.block_lt_of_cell? w _ hz0
  have hqw := World.block_lt_of_cell? w _ hm
  have HZ := hideM hZ
  have HNZ := hideM hN
  have HR := hideM hr
  have hRl : rb4 (field (bnum zs) i 32) < 4294967296 := rb4_lt _
  generalize rb4 (field (bnum zs) i 32) = F at *
  have AD := hideM (fun W h => adl_first bo cb d d.length rfl W h hd hcb hld)
  have HBP := hideM hbp
  have BG := hideM (fun W h1 h2 h3 => begin_any q p S n1 a38 d bo cb W h1 hS0 hS1 h2 hcb hcm h3)
  rw [← hok] at AD
  have hne : ((F : Int) != (F : Int)) = false := by simp
  have hdl : ((d.length : Int) == 0) = false := by
    have : d.length ≠ 0 := fun h => he (List.eq_nil_of_length_eq_zero h)
    simp
    omega
  clear h hr hZ hd hbp hok hN hm
  go_enter Tryz.func86, Tryz.ntmps86
  go_wp2_with fail
  refine Calls.mono HN.out ?_
  rintro e w1 ⟨rfl, hR, hg⟩
  have R1 := hideM hR
  have G1 := hideM hg
  have Z1 := hideM (HZ.out.same (hg.block z hzw (by simpa using hzp)))
  have D1 := hideM (HR.out.grown hg (fun ad e => by simpa using (HBP.out ad e).1))
  have N1 := hideM (HNZ.out.same (hg.block q hqw (by simpa using hqp)))
  have k1 := Z1.out.z1
  have k0 := Z1.out.z0
  have k2 := Z1.out.z2
  have hzw1 := World.block_lt_of_cell? w1 _ k1
  have hsz := hg.size
  clear hR hg HN HZ hz0 HNZ
  go_upto_region 4 with fail
  go_wp2_with fail
  refine Calls.mono (AD.out _ D1.out) ?_
  rintro e w2 ⟨rfl, hw2⟩
  obtain rfl := hw2.symm
  have B1 := hideM (BG.out w1.drew (N1.out.same rfl) (D1.out.below (Below.refl _ _).drew) (fun ad e => Nat.lt_of_lt_of_le (HBP.out ad e).2 hsz))
  go_upto_region 6 with fail
  go_region_held3 (fun w' => w'.cell? ⟨z, 0, none⟩ = some (.pointer (some ⟨q, 0, none⟩)) ∧ w'.cell? ⟨z, 1, none⟩ = some (.slice bo d.length cb) ∧ w'.cell? ⟨z, 2, none⟩ = some (.int .i64 (S : Int)) ∧ z < w'.heap.size)
    (first | (with_reducible assumption) | (go_keep; done) | (exact ⟨by assumption, by assumption, by assumption, by assumption⟩))
    ((go_at_call 87; refine Calls.mono B1.out ?_; rintro e w3 ⟨g, rfl, hR3, hT3, hg3, hgw3, hgr3⟩; have K : w3.cell? ⟨z, 0, none⟩ = some (.pointer (some ⟨q, 0, none⟩)) ∧ w3.cell? ⟨z, 1, none⟩ = some (.slice bo d.length cb) ∧ w3.cell? ⟨z, 2, none⟩ = some (.int .i64 (S : Int)) ∧ z < w3.heap.size := ⟨hgr3.cell (show w1.drew.cell? ⟨z, 0, none⟩ = _ from k0) (by simpa using hzq), hgr3.cell (show w1.drew.cell? ⟨z, 1, none⟩ = _ from k1) (by simpa using hzq), hgr3.cell (show w1.drew.cell? ⟨z, 2, none⟩ = _ from k2) (by simpa using hzq), Nat.lt_of_lt_of_le hzw1 hgr3.size⟩; obtain ⟨K1, K2, K3, K4⟩ := K))
  have BP : Hid (BeginPost q p S n1 a38 (lastN S d) (.returned (inow q a38 7)) w1.drew w3) := ⟨g, rfl, hR3, hT3, hg3, hgw3, hgr3⟩
  clear hR3 hT3 hg3 hgw3 hgr3 K1 K2 K3 K4 BG B1
  go_wp2_with fail
  exact bodyPost_ret (v := .tuple #[inow q a38 7, .nilIface]) (by simp [results, Tryz.results86, go_sem]) rfl ⟨rfl, w1, R1.out, G1.out, BP.out⟩
end Go.Proofs.YtbddkkfakkedaaaGreatDoor
namespace Go.Proofs.YtbddkkfakkedaaaGreatDoor
open Go.RowKit
variable {KH : Nat → Option Obj}
attribute [local go_sem ↓] Go.wp_at_zero Go.wp_at_succ
set_option linter.unusedVariables false

/-- Where an inflater stands that has gone to bit j. -/
def icTo (c : IC) (j : Nat) : IC := { c with lc := { c.lc with i := j } }
set_option maxRecDepth 100000 in
set_option maxHeartbeats 3200000 in
theorem outSum_no (z q p hB g s B : Nat) (zs : List Int) (aft : Value) (c : IC) (w : World) (hM : IMem KH q p hB g s B zs aft w c) (hz0 : w.cell? ⟨z, 0, none⟩ = some (.pointer (some ⟨q, 0, none⟩))) (hzp : z ≠ p) (hzl : zs.length ≤ 65536) (hn : ¬ (c.lc.i + 7) / 8 * 8 + 32 ≤ 8 * zs.length) :
    Calls Tryz.prog 52 #[.pointer (some ⟨z, 0, none⟩)] w fun e w' => e = .returned (.tuple #[.nilFunc, flt 2]) ∧ IMem KH q p hB g s B zs aft w' (icTo c ((c.lc.i + 7) / 8 * 8)) ∧ Below B w w' := by
  have hqw := hM.lt
  have q0 := hM.lm.c0
  have hzw := World.block_lt_of_cell? w _ hz0
  have HM := hideM hM
  have AL := hideM (rd_align p hB zs c.lc.i w hM.lm.rd hzl)
  generalize (c.lc.i + 7) / 8 * 8 = j at *
  have HBS := hideM hM.bs
  clear hM
  go_enter Tryz.func52, Tryz.ntmps52
  go_wp2_with fail
  refine Calls.mono AL.out ?_
  rintro e w1 ⟨rfl, hR, hg⟩
  have M1 := hideM (HM.out.went hR hg)
  have B1 := hideM (HM.out.bel hg)
  have HF := hideM (highFirst_no z q p hB zs j w1 (hg.cell hz0 (by simpa using hzp)) M1.out.lm.c0 hR hzl hn)
  have hs1 : q < w1.heap.size := M1.out.lt
  unfold flt at HF
  clear hR hg AL HM
  go_wp2_with fail
  refine Calls.mono HF.out ?_
  rintro e w2 ⟨rfl, hb⟩
  have M2 := hideM (M1.out.below hb)
  have B2 := hideM (B1.out.trans (hb.mono (show B ≤ w1.heap.size from by have := HBS.out; omega)))
  clear hb HF M1 B1
  go_wp2_with fail
  exact bodyPost_ret (v := .tuple #[.nilFunc, flt 2]) (by simp [results, Tryz.results52, go_sem, flt]) rfl ⟨rfl, M2.out, B2.out⟩
set_option maxRecDepth 100000 in
set_option maxHeartbeats 3200000 in
theorem outSum_yes (z q p hB g s B : Nat) (zs : List Int) (aft : Value) (c : IC) (w : World) (hM : IMem KH q p hB g s B zs aft w c) (hz0 : w.cell? ⟨z, 0, none⟩ = some (.pointer (some ⟨q, 0, none⟩))) (hzp : z ≠ p) (hz : Octets zs) (hzl : zs.length ≤ 65536) (hn : (c.lc.i + 7) / 8 * 8 + 32 ≤ 8 * zs.length) (hol : c.out.length ≤ 65536) (hoc : Octets c.out) :
    Calls Tryz.prog 52 #[.pointer (some ⟨z, 0, none⟩)] w fun e w' => e = .returned (.tuple #[.nilFunc, if ((rb4 (field (bnum zs) ((c.lc.i + 7) / 8 * 8) 32) : Nat) : Int) = Adl.adl c.out then .nilIface else flt 4]) ∧ IMem KH q p hB g s B zs aft w' (icTo c ((c.lc.i + 7) / 8 * 8 + 32)) ∧ Below B w w' := by
  have hqw := hM.lt
  have q0 := hM.lm.c0
  have hzw := World.block_lt_of_cell? w _ hz0
  have HM := hideM hM
  have AL := hideM (rd_align p hB zs c.lc.i w hM.lm.rd hzl)
  generalize (c.lc.i + 7) / 8 * 8 = j at *
  have HBS := hideM hM.bs
  clear hM
  obtain ⟨F, hFe⟩ : ∃ F, rb4 (field (bnum zs) j 32) = F := ⟨_, rfl⟩
  obtain ⟨Y, hY⟩ : ∃ Y : Nat, Adl.adl c.out = (Y : Int) := ⟨(Adl.adl c.out).toNat, by have := adl_bd c.out; omega⟩
  have hFl : F < 4294967296 := by rw [← hFe]; exact rb4_lt _
  have HO := hideM hoc
  have HF0 := hideM (fun W a b c => highFirst_yes z q p hB zs j W a b c hz hzl hn)
  have AD0 := hideM (fun ao cap W h1 h2 => adl_first ao cap c.out c.out.length rfl W h1 hoc h2 hol)
  rw [hFe] at HF0
  rw [hFe, hY]
  rw [hY] at AD0
  clear hFe hY hoc
  by_cases hc : (F : Int) = (Y : Int)
  · rw [if_pos hc]
    have hcb : ((F : Int) != (Y : Int)) = false := by simpa using hc
    clear hc
    go_enter Tryz.func52, Tryz.ntmps52
    go_wp2_with fail
    refine Calls.mono AL.out ?_
    rintro e w1 ⟨rfl, hR, hg⟩
    have M1 := hideM (HM.out.went hR hg)
    have B1 := hideM (HM.out.bel hg)
    have k1 := hg.cell hz0 (by simpa using hzp)
    have HF := hideM (HF0.out w1 k1 M1.out.lm.c0 hR)
    have hs1 : q < w1.heap.size := M1.out.lt
    clear hR hg AL HM HF0 hz0
    go_wp2_with fail
    refine Calls.mono HF.out ?_
    rintro e w2 ⟨rfl, hR2, hg2⟩
    have M2 := hideM (M1.out.went hR2 hg2)
    have B2 := hideM (B1.out.trans (M1.out.bel hg2))
    have k2 := hg2.cell k1 (by simpa using hzp)
    have hz2 := World.block_lt_of_cell? w2 _ k2
    obtain ⟨T, hRr, _⟩ := M2.out.ex
    obtain ⟨ao, cap, q30, hown, _⟩ := hRr.o30
    have q30' : w2.cell? ⟨q, 30, none⟩ = some (.slice ao c.out.length cap) := q30
    have hown' : OwnsB 5 B w2 ao cap c.out := hown
    have TS := hideM (toldSince_zero q c.out.length cap ao w2 q30' hown'.mine.fits hown'.mine.most hown'.mine.nil_len)
    have AD := hideM (AD0.out ao cap w2 hown'.mine.row hown'.mine.fits)
    have hq2 : q < w2.heap.size := M2.out.lt
    clear hR2 hg2 HF M1 B1 k1 hRr q30 hown q30' hown' AD0
    generalize c.out.length = n at *
    go_wp2_with fail
    refine Calls.mono TS.out ?_
    rintro e w3 ⟨rfl, hw3⟩
    obtain rfl := hw3.symm
    go_wp2_with fail
    refine Calls.mono AD.out ?_
    rintro e w3 ⟨rfl, hw3⟩
    obtain rfl := hw3.symm
    go_wp2_with fail
    exact bodyPost_ret (v := .tuple #[.nilFunc, .nilIface]) (by simp [results, Tryz.results52, go_sem]) rfl ⟨rfl, M2.out, B2.out⟩
  · rw [if_neg hc]
    have hcb : ((F : Int) != (Y : Int)) = true := by simpa using hc
    clear hc
    go_enter Tryz.func52, Tryz.ntmps52
    go_wp2_with fail
    refine Calls.mono AL.out ?_
    rintro e w1 ⟨rfl, hR, hg⟩
    have M1 := hideM (HM.out.went hR hg)
    have B1 := hideM (HM.out.bel hg)
    have k1 := hg.cell hz0 (by simpa using hzp)
    have HF := hideM (HF0.out w1 k1 M1.out.lm.c0 hR)
    have hs1 : q < w1.heap.size := M1.out.lt
    clear hR hg AL HM HF0 hz0
    go_wp2_with fail
    refine Calls.mono HF.out ?_
    rintro e w2 ⟨rfl, hR2, hg2⟩
    have M2 := hideM (M1.out.went hR2 hg2)
    have B2 := hideM (B1.out.trans (M1.out.bel hg2))
    have k2 := hg2.cell k1 (by simpa using hzp)
    have hz2 := World.block_lt_of_cell? w2 _ k2
    obtain ⟨T, hRr, _⟩ := M2.out.ex
    obtain ⟨ao, cap, q30, hown, _⟩ := hRr.o30
    have q30' : w2.cell? ⟨q, 30, none⟩ = some (.slice ao c.out.length cap) := q30
    have hown' : OwnsB 5 B w2 ao cap c.out := hown
    have TS := hideM (toldSince_zero q c.out.length cap ao w2 q30' hown'.mine.fits hown'.mine.most hown'.mine.nil_len)
    have AD := hideM (AD0.out ao cap w2 hown'.mine.row hown'.mine.fits)
    have hq2 : q < w2.heap.size := M2.out.lt
    clear hR2 hg2 HF M1 B1 k1 hRr q30 hown q30' hown' AD0
    generalize c.out.length = n at *
    go_wp2_with fail
    refine Calls.mono TS.out ?_
    rintro e w3 ⟨rfl, hw3⟩
    obtain rfl := hw3.symm
    go_wp2_with fail
    refine Calls.mono AD.out ?_
    rintro e w3 ⟨rfl, hw3⟩
    obtain rfl := hw3.symm
    go_wp2_with fail
    exact bodyPost_ret (v := .tuple #[.nilFunc, flt 4]) (by simp [results, Tryz.results52, go_sem, flt]) rfl ⟨rfl, M2.out, B2.out⟩
end Go.Proofs.YtbddkkfakkedaaaGreatDoor
