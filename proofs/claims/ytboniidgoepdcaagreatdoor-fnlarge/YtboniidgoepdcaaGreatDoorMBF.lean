import Derived.Test.YtboniidgoepdcaaGreatDoorMAB
import Derived.Test.YtboniidgoepdcaaGreatDoorMAQ
namespace Go.Proofs.YtboniidgoepdcaaGreatDoor
open Go.RowKit
attribute [local go_sem ↓] Go.wp_at_zero Go.wp_at_succ

set_option maxHeartbeats 3200000 in
/-- (byteReader).bytes, where it is not Ok. -/
theorem bytes_no (p : Nat) (ao : Option Addr) (len cap : Nat) (a u n : Int) (w : World) (hs : Src w p (.slice ao len cap) a u) (hv : vld len a u = true) (hno : a ≠ 0 ∨ (a = 0 ∧ n < 0) ∨ (a = 0 ∧ 0 ≤ n ∧ (len : Int) < n) ∨ (a = 0 ∧ 0 ≤ n ∧ n ≤ len ∧ hasB len 0 u (8 * n) = false)) :
    Calls Tryz.prog 87 #[.agg #[.pointer (some ⟨p, 0, none⟩)], .int .i64 n] w fun e w' => e = .returned (.tuple #[.slice none 0 0, .bool false]) ∧ Below w.heap.size w w' := by
  obtain ⟨a0, a7, al, hl, u0, u1, um⟩ := vld_out hv
  clear al um hv
  have hp : p < w.heap.size := World.block_lt_of_cell? w _ hs.1
  have hne : w.heap.size ≠ p := by omega
  have hs' := hs
  obtain ⟨c0, c1, c2, f0, f1, f2⟩ := hs'
  rcases hno with h | ⟨rfl, h⟩ | ⟨rfl, h0, h⟩ | ⟨rfl, h0, h1, h2⟩
  · have hb : (a != 0) = true := by simpa using h
    clear hs h
    go_enter Tryz.func87, Tryz.ntmps87
    go_wp2_with fail
    go_ret2
    exact ⟨rfl, (Below.refl _ _).alloc (Nat.le_refl _) _⟩
  · clear hs
    go_enter Tryz.func87, Tryz.ntmps87
    go_wp2_with fail
    go_ret2
    exact ⟨rfl, (Below.refl _ _).alloc (Nat.le_refl _) _⟩
  · have h' : ¬ n < 0 := by omega
    clear hs
    go_enter Tryz.func87, Tryz.ntmps87
    go_wp2_with fail
    go_ret2
    exact ⟨rfl, (Below.refl _ _).alloc (Nat.le_refl _) _⟩
  · have HB : Hid (hasB len 0 u (8 * n) = false) := h2
    clear h2
    have hs2 := hs.grown (World.grownBy_alloc w (Obj.cells #[Value.pointer (some ⟨p, 0, none⟩)] 174) none) (by simp)
    go_enter Tryz.func87, Tryz.ntmps87
    go_wp2_with fail
    refine (has_any p ao len cap 0 u (8 * n) _ hs2 hl a0 a7 u0 u1 (by omega) (by omega)).mono ?_
    rintro e w' ⟨rfl, q, rfl⟩
    rw [HB.out]
    go_wp2_with fail
    go_ret2
    exact ⟨rfl, ((Below.refl _ _).alloc (Nat.le_refl _) _).trans (below_drewN' _ _ _)⟩

set_option maxHeartbeats 3200000 in
/-- (byteReader).bytes, Ok. -/
theorem bytes_yes (p : Nat) (ao : Option Addr) (cap : Nat) (zs : List Int) (u : Int) (n : Nat) (w : World) (hs : Src w p (.slice ao zs.length cap) 0 u) (hr : Row w ao zs) (hnil : ao = none → cap = 0) (hfit : zs.length ≤ cap) (hv : vld zs.length 0 u = true) (hnl : n ≤ zs.length) (hh : hasB zs.length 0 u (8 * n) = true) :
    Calls Tryz.prog 87 #[.agg #[.pointer (some ⟨p, 0, none⟩)], .int .i64 n] w fun e w' => ∃ bo bc, e = .returned (.tuple #[.slice bo n bc, .bool true]) ∧ Mine w.heap.size w' bo bc (zs.take n) ∧
      Src w' p (.slice (cutAt ao cap n) (zs.length - n) (cap - n)) 0 (u + 8 * n) ∧ w.grownBy w' (some p) := by
  obtain ⟨a0, a7, al, hl, u0, u1, um⟩ := vld_out hv
  have HB : Hid (hasB zs.length 0 u (8 * n) = true) := hh
  clear al um hv hh
  have hp : p < w.heap.size := World.block_lt_of_cell? w _ hs.1
  have hne : w.heap.size ≠ p := by omega
  have hal := World.grownBy_alloc w (Obj.cells #[Value.pointer (some ⟨p, 0, none⟩)] 174) none
  have hs2 := hs.grown hal (by simp)
  have hr2 := hr.grown hal (by simp)
  have hrt : Row (w.alloc (Obj.cells #[Value.pointer (some ⟨p, 0, none⟩)] 174)) ao (zs.take n) := by
    intro i hi
    rw [List.length_take] at hi
    obtain ⟨b, off, e, hc⟩ := hr2 i (by omega)
    refine ⟨b, off, e, ?_⟩
    rw [hc]
    simp [List.getD, show i < n by omega]
  have hlt : (zs.take n).length = n := by rw [List.length_take]; omega
  have hrd : (w.alloc (.cells #[.pointer (some ⟨p, 0, none⟩)] 174)).cell? ⟨w.heap.size, 0, none⟩ = some (.pointer (some ⟨p, 0, none⟩)) := by simp [go_sem]
  obtain ⟨c0, c1, c2, f0, f1, f2⟩ := hs
  generalize zs.take n = zt at *
  go_enter Tryz.func87, Tryz.ntmps87
  go_wp2_with fail
  refine (has_any p ao zs.length cap 0 u (8 * n) _ hs2 hl a0 a7 u0 u1 (by omega) (by omega)).mono ?_
  rintro e w' ⟨rfl, q, rfl⟩
  rw [HB.out]
  go_wp2_with fail
  have hcb := copyBytes_any ao cap zt ((w.alloc (.cells #[.pointer (some ⟨p, 0, none⟩)] 174)).drewN q) (hrt.drewN q) hnil (by omega)
  rw [hlt] at hcb
  refine hcb.mono ?_
  rintro e w3 ⟨bo, bc, rfl, hm3, hb3⟩
  have hs3 := (hs2.drewN q).grown (grownBy_of_below hb3 none) (by simp)
  have hrd3 : w3.cell? ⟨w.heap.size, 0, none⟩ = some (.pointer (some ⟨p, 0, none⟩)) := (grownBy_of_below hb3 none).cell (by exact hrd) (by simp)
  have hg3 : w.grownBy w3 (some p) := grownBy_trans (grownBy_trans (World.grownBy_alloc w _ _) (grownBy_of_below (below_drewN' _ _ _) _)) (grownBy_of_below hb3 _)
  have hbp : blk bo ≠ some p := hm3.far (by show p < (w.alloc _).heap.size; simp; omega)
  have hm3' := hm3.mono (B' := w.heap.size) (by show w.heap.size ≤ (w.alloc _).heap.size; simp)
  clear hr2 hs2 hrd hb3 hr hal hcb hrt hm3 c0 c1 c2 f0 f1 f2 hlt
  go_wp2_with fail
  refine (pass_any p ao zs.length cap 0 u (8 * n) _ hs3 hl a0 a7 u0 u1 (by omega) (by omega)).mono ?_
  rintro e w4 ⟨rfl, h1, h2, h3⟩
  rw [show (0 + 8 * (n : Int)) / 8 = (n : Int) by omega, show (0 + 8 * (n : Int)) % 8 = 0 by omega, Int.toNat_natCast] at h1
  have hm4 := hm3'.grown h2 (by intro k e; simp at e; subst e; exact hbp)
  go_wp2_with fail
  go_ret2
  exact ⟨bo, bc, rfl, hm4, h1, grownBy_trans hg3 h2⟩
end Go.Proofs.YtboniidgoepdcaaGreatDoor
