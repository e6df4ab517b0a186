import Derived.Test.YtmfacacpoajpgabSrc
import Derived.Test.YtmfacacpoajpgabNum
import Derived.Test.YtmfacacpoajpgabValidI
import Derived.Lib.MinMax
namespace Go.Proofs.Ytmfacacpoajpgab
open Go.RowKit
attribute [local go_sem ↓] Go.wp_at_zero Go.wp_at_succ

theorem ret_i {k : IntKind} {a b : Int} (h : a = b) : Ending.returned (.int k a) = .returned (.int k b) := by rw [h]

set_option maxRecDepth 100000 in
set_option maxHeartbeats 3200000 in
/-- (bitReader).peek. -/
theorem peek_any (p : Nat) (ao : Option Addr) (cap : Nat) (zs : List Int) (a u : Int) (n : Nat) (w : World) (hs : Src w p (.slice ao zs.length cap) a u) (hr : Row w ao zs) (hz : Octets zs) (hfit : zs.length ≤ cap) (hl : zs.length ≤ 1000000) (a0 : 0 ≤ a) (a7 : a ≤ 7) (n1 : n ≤ 32) (hn : a + n ≤ 8 * (zs.length : Int)) :
    Calls Try.prog 65 #[.agg #[.pointer (some ⟨p, 0, none⟩)], .int .i64 n] w fun e w' => e = .returned (.int .u64 (field (bnum zs) a.toNat n : Nat)) ∧ Below w.heap.size w w' := by
  have hp : p < w.heap.size := World.block_lt_of_cell? w _ hs.1
  have hne : w.heap.size ≠ p := by omega
  obtain ⟨c0, c1, c2, f0, f1, f2⟩ := hs
  obtain ⟨m, hm⟩ : ∃ m : Nat, m = min zs.length 5 := ⟨_, rfl⟩
  have hmin : min (zs.length : Int) 5 = (m : Int) := by omega
  have hmax : max (m : Int) 0 = (m : Int) := by omega
  have hm5 : m ≤ 5 := by omega
  have hml : m ≤ zs.length := by omega
  have HM : Hid (m = min zs.length 5) := hm
  clear hm
  go_enter Try.func65, Try.ntmps65
  go_wp2
  go_quiet (fail)
  go_wp2_with fail
  go_loop [5, 22] (fun x i => ∃ k : Nat, k ≤ m ∧ i = .int .i64 k ∧ x = .int .u64 (bnum (zs.take k) : Nat)) (fun _ i => m - (intOf i).toNat)
  case atStart => exact ⟨0, Nat.zero_le _, rfl, rfl⟩
  case round =>
    obtain ⟨k, hk, rfl, rfl⟩ := hrel
    by_cases hlt : k < m
    · obtain ⟨b, off, rfl, hc⟩ := hr.at (k := k) (by omega)
      have hck := hc k (by omega)
      have hbw : b < w.heap.size := World.block_lt_of_cell? w _ hck
      have hzk := hz.getD k
      have hNs := bnum_take_succ zs k (by omega)
      have HNs : Hid (bnum (zs.take (k + 1)) = bnum (zs.take k) + (zs.getD k 0).toNat * 256 ^ k) := hNs
      clear hNs hc hr
      have hy : bnum (zs.take k) < 256 ^ k := by
        have := bnum_lt (zs.take k) (hz.take k)
        rw [List.length_take, Nat.min_eq_left (by omega)] at this
        exact this
      generalize zs.getD k 0 = x at *
      generalize bnum (zs.take k) = y at *
      go_wp2_with fail
      go_round
      case rel => exact ⟨k + 1, by omega, by go_num, by rw [HNs.out, word_or y k x hy (by omega) hzk.1 hzk.2]⟩
      case measure => simp [intOf]; omega
    · have e : k = m := by omega
      subst e
      have hy : bnum (zs.take k) < 18446744073709551616 := by
        have h1 := bnum_lt (zs.take k) (hz.take k)
        have h2 : (256 : Nat) ^ (zs.take k).length ≤ 256 ^ 5 := Nat.pow_le_pow_right (by decide) (by rw [List.length_take]; omega)
        omega
      have HF : Hid (field (bnum (zs.take k)) a.toNat n = field (bnum zs) a.toNat n) := bnum_low zs k a.toNat n (by have := HM.out; omega)
      clear hr
      go_wp2_with fail
      go_quiet (fail)
      go_wp2_with fail
      go_ret
      exact ⟨by rw [← HF.out]; exact ret_i (word_and _ _ n hy n1), ((((Below.refl _ _).alloc (Nat.le_refl _) _).trans (below_drewN' _ _ _)).trans (below_drewN' _ _ _))⟩

set_option maxHeartbeats 3200000 in
/-- (bitReader).take, where it is not Ok. -/
theorem take_no (p : Nat) (ao : Option Addr) (len cap : Nat) (a u n : Int) (w : World) (hs : Src w p (.slice ao len cap) a u) (hv : vld len a u = true) (hno : n < 0 ∨ 32 < n ∨ (0 ≤ n ∧ n ≤ 32 ∧ hasB len a u n = false)) :
    Calls Try.prog 50 #[.agg #[.pointer (some ⟨p, 0, none⟩)], .int .i64 n] w fun e w' => e = .returned (.tuple #[.int .u64 0, .bool false]) ∧ Below w.heap.size w w' := by
  obtain ⟨a0, a7, al, hl, u0, u1, um⟩ := vld_out hv
  clear al um hv
  rcases hno with h | h | ⟨h0, h1, h2⟩
  · clear hs
    go_enter Try.func50, Try.ntmps50
    go_wp2_with fail
    go_ret2
    exact ⟨rfl, (Below.refl _ _).alloc (Nat.le_refl _) _⟩
  · have h' : ¬ n < 0 := by omega
    clear hs
    go_enter Try.func50, Try.ntmps50
    go_wp2_with fail
    go_ret2
    exact ⟨rfl, (Below.refl _ _).alloc (Nat.le_refl _) _⟩
  · have HB : Hid (hasB len a u n = false) := h2
    clear h2
    have hs2 := hs.grown (World.grownBy_alloc w (Obj.cells #[Value.pointer (some ⟨p, 0, none⟩)] 68) none) (by simp)
    go_enter Try.func50, Try.ntmps50
    go_wp2_with fail
    refine (has_any p ao len cap a u n _ hs2 hl a0 a7 u0 u1 h0 (by omega)).mono ?_
    rintro e w' ⟨rfl, q, rfl⟩
    rw [HB.out]
    go_wp2_with fail
    go_ret2
    exact ⟨rfl, ((Below.refl _ _).alloc (Nat.le_refl _) _).trans (below_drewN' _ _ _)⟩

set_option maxHeartbeats 3200000 in
/-- (bitReader).take, Ok. -/
theorem take_yes (p : Nat) (ao : Option Addr) (cap : Nat) (zs : List Int) (a u : Int) (n : Nat) (w : World) (hs : Src w p (.slice ao zs.length cap) a u) (hr : Row w ao zs) (hz : Octets zs) (hfit : zs.length ≤ cap) (hv : vld zs.length a u = true) (n1 : n ≤ 32) (hh : hasB zs.length a u n = true) :
    Calls Try.prog 50 #[.agg #[.pointer (some ⟨p, 0, none⟩)], .int .i64 n] w fun e w' => e = .returned (.tuple #[.int .u64 (field (bnum zs) a.toNat n : Nat), .bool true]) ∧
      Src w' p (.slice (cutAt ao cap ((a + n) / 8).toNat) (zs.length - ((a + n) / 8).toNat) (cap - ((a + n) / 8).toNat)) ((a + n) % 8) (u + n) ∧ w.grownBy w' (some p) := by
  obtain ⟨a0, a7, al, hl, u0, u1, um⟩ := vld_out hv
  have hbits := of_decide_eq_true hh
  have HB : Hid (hasB zs.length a u n = true) := hh
  clear al um hv hh
  have hp : p < w.heap.size := World.block_lt_of_cell? w _ hs.1
  have hal := World.grownBy_alloc w (Obj.cells #[Value.pointer (some ⟨p, 0, none⟩)] 68) none
  have hs2 := hs.grown hal (by simp)
  have hr2 := hr.grown hal (by simp)
  have hrd : (w.alloc (.cells #[.pointer (some ⟨p, 0, none⟩)] 68)).cell? ⟨w.heap.size, 0, none⟩ = some (.pointer (some ⟨p, 0, none⟩)) := by simp [go_sem]
  go_enter Try.func50, Try.ntmps50
  go_wp2_with fail
  refine (has_any p ao zs.length cap a u n _ hs2 hl a0 a7 u0 u1 (by omega) (by omega)).mono ?_
  rintro e w' ⟨rfl, q, rfl⟩
  rw [HB.out]
  go_wp2_with fail
  refine (peek_any p ao cap zs a u n _ (hs2.drewN q) (hr2.drewN q) hz hfit hl a0 a7 n1 (by omega)).mono ?_
  rintro e w3 ⟨rfl, hb3⟩
  have hs3 := (hs2.drewN q).grown (grownBy_of_below hb3 none) (by simp)
  have hrd3 : w3.cell? ⟨w.heap.size, 0, none⟩ = some (.pointer (some ⟨p, 0, none⟩)) := (grownBy_of_below hb3 none).cell (by exact hrd) (by simp)
  have hg3 : w.grownBy w3 (some p) := grownBy_trans (grownBy_trans (World.grownBy_alloc w _ _) (grownBy_of_below (below_drewN' _ _ _) _)) (grownBy_of_below hb3 _)
  clear hr2 hs2 hrd hb3 hr hal
  go_wp2_with fail
  refine (pass_any p ao zs.length cap a u n _ hs3 hl a0 a7 u0 u1 (by omega) (by omega)).mono ?_
  rintro e w4 ⟨rfl, h1, h2, h3⟩
  go_wp2_with fail
  go_ret2
  exact ⟨rfl, h1, grownBy_trans hg3 h2⟩
end Go.Proofs.Ytmfacacpoajpgab
