import Derived.Test.YtjknaigdlkpiaaaWinD
namespace Go.Proofs.Ytjknaigdlkpiaaa
open Go.RowKit
attribute [local go_sem ↓] Go.wp_at_zero Go.wp_at_succ
set_option linter.unusedVariables false

theorem icopy_any (s d m : Int) (zs : List Int) (ao : Option Addr) (cap : Nat) (w : World) (ha : Arg w ao cap zs) (hn : zs.length ≤ 1048576) :
    Calls Try.prog 12 #[.agg #[.int .i64 s, .slice ao zs.length cap], .int .i64 d, .int .i64 m] w fun e w' => ResC w.heap.size w' e (vcpy zs.length s d m) (if vcpy zs.length s d m then dataN zs d.toNat m.toNat else []) (if vcpy zs.length s d m then s else 0) (if vcpy zs.length s d m then lastN s.toNat (copyN zs d.toNat m.toNat) else []) ∧ Below w.heap.size w w' := by
  by_cases hv : vcpy zs.length s d m = true
  · simp only [hv, if_true]
    obtain ⟨k, dd, mm, rfl, rfl, rfl, h1, h2, h3, h4, h5, h6, h7, h8⟩ := vcpy_true hv
    simp only [Int.toNat_natCast]
    exact icopy_yes k dd mm zs ao cap w ha h1 h2 h3 h4 h5 h6 h7 h8
  · have hv : vcpy zs.length s d m = false := by simpa using hv
    simp only [hv]
    exact icopy_no s d m zs ao cap w (by omega) hv
theorem scopy_any (s d m : Int) (zs : List Int) (ao : Option Addr) (cap : Nat) (w : World) (ha : Arg w ao cap zs) (hn : zs.length ≤ 1048576) :
    Calls Try.prog 10 #[.agg #[.int .i64 s, .slice ao zs.length cap], .int .i64 d, .int .i64 m] w fun e w' => ResC w.heap.size w' e (vcpy zs.length s d m) (if vcpy zs.length s d m then dataN zs d.toNat m.toNat else []) (if vcpy zs.length s d m then s else 0) (if vcpy zs.length s d m then lastN s.toNat (copyN zs d.toNat m.toNat) else []) ∧ Below w.heap.size w w' := by
  by_cases hv : vcpy zs.length s d m = true
  · simp only [hv, if_true]
    obtain ⟨k, dd, mm, rfl, rfl, rfl, h1, h2, h3, h4, h5, h6, h7, h8⟩ := vcpy_true hv
    simp only [Int.toNat_natCast]
    exact scopy_yes k dd mm zs ao cap w ha h1 h2 h3 h4 h5 h6 h7 h8
  · have hv : vcpy zs.length s d m = false := by simpa using hv
    simp only [hv]
    exact scopy_no s d m zs ao cap w (by omega) hv

set_option maxHeartbeats 1600000 in
theorem eqCopy_same (a1 a2 b1 b2 : Option Addr) (c1 c2 k1 k2 : Nat) (b : Bool) (ds zs : List Int) (s : Int) (w : World) (h1 : Row w a1 ds) (h2 : Row w a2 zs) (h3 : Row w b1 ds) (h4 : Row w b2 zs) (hd : ds.length ≤ 140737488355328) (hn : zs.length ≤ 140737488355328) :
    Calls Try.prog 13 #[.agg #[.bool b, .slice a1 ds.length c1, .int .i64 s, .slice a2 zs.length c2], .agg #[.bool b, .slice b1 ds.length k1, .int .i64 s, .slice b2 zs.length k2]] w fun e w' => e = .returned (.bool true) ∧ Below w.heap.size w w' := by
  have hbl : Below w.heap.size w ((w.alloc (.cells #[.bool b, .slice a1 ds.length c1, .int .i64 s, .slice a2 zs.length c2] 28)).alloc (.cells #[.bool b, .slice b1 ds.length k1, .int .i64 s, .slice b2 zs.length k2] 28)) := ((Below.refl _ _).alloc (Nat.le_refl _) _).alloc (by simp) _
  have g1 : (b != b) = false := by simp
  have HR1 := hide1 (h1.below hbl)
  have HR3 := hide1 (h3.below hbl)
  have HR2 := hide1 (h2.below hbl)
  have HR4 := hide1 (h4.below hbl)
  have HB := hide1 hbl
  have X1 := hide1 ((cpy_new w b (.slice a1 ds.length c1) s (.slice a2 zs.length c2) 28).grown (World.grownBy_alloc _ (.cells #[.bool b, .slice b1 ds.length k1, .int .i64 s, .slice b2 zs.length k2] 28) none) (by simp))
  have X2 := hide1 (cpy_new (w.alloc (.cells #[.bool b, .slice a1 ds.length c1, .int .i64 s, .slice a2 zs.length c2] 28)) b (.slice b1 ds.length k1) s (.slice b2 zs.length k2) 28)
  clear hbl h1 h2 h3 h4
  go_enter Try.func13, Try.ntmps13
  go_wp2_with fail
  refine (eqByteS_any a1 b1 c1 k1 ds ds _ HR1.out HR3.out hd).mono ?_
  rintro e w1 ⟨rfl, q, rfl⟩
  rw [decide_eq_true rfl]
  go_wp2_with fail
  refine Calls.mono (eqWindow_same a2 b2 c2 k2 zs s _ (HR2.out.drewN q) (HR4.out.drewN q) hn) ?_
  rintro e w2 ⟨rfl, hb2⟩
  go_wp2_with fail
  go_ret
  exact ⟨rfl, (HB.out.trans (below_drewN' _ _ q)).trans (hb2.mono (by show _ ≤ (World.drewN _ q).heap.size; simp; omega))⟩

set_option maxHeartbeats 1600000 in
theorem markCopy_any (B : Nat) (a1 a2 : Option Addr) (c1 c2 : Nat) (b : Bool) (ds zs : List Int) (s : Int) (k : Nat) (w : World) (h1 : Mine B w a1 c1 ds) (h2 : Mine B w a2 c2 zs) (hap : ∀ k, blk a1 = some k → blk a2 ≠ some k) (hd : ds.length ≤ 4194304) (hn : zs.length ≤ 4194304) (hk : k ≤ 4194304) :
    Calls Try.prog 16 #[.agg #[.bool b, .slice a1 ds.length c1, .int .i64 s, .slice a2 zs.length c2], .int .i64 k] w fun e w' =>
      e = .returned (.int .i64 ((k + ds.length + zs.length : Nat) : Int)) ∧ Mine B w' a1 c1 (marks k ds.length) ∧ Mine B w' a2 c2 (marks (k + ds.length) zs.length) ∧ ∃ wm, w.grownBy wm (blk a1) ∧ wm.grownBy w' (blk a2) := by
  have hb0 : Below w.heap.size w (w.alloc (.cells #[.bool b, .slice a1 ds.length c1, .int .i64 s, .slice a2 zs.length c2] 28)) := (Below.refl _ _).alloc (Nat.le_refl _) _
  have m1 := h1.below hb0
  have H2 := hide1 (h2.below hb0)
  have HM : Hid _ := markByteS_any a1 c1 ds k _ m1.row m1.free (by omega) (by omega)
  have X1 := hide1 (cpy_new w b (.slice a1 ds.length c1) s (.slice a2 zs.length c2) 28)
  have M1 := hide1 m1
  have H1 := hide1 h1
  clear hb0 m1 h1 h2
  go_enter Try.func16, Try.ntmps16
  go_wp2_with fail
  refine Calls.mono HM.out ?_
  rintro e w1 ⟨rfl, r1, f1, hg1, hz1⟩
  have hne : some w.heap.size ≠ blk a1 := by
    intro e
    have := blk_mine H1.out e.symm
    omega
  have H3 := hide1 (H2.out.grown hg1 (by intro q e; exact hap q e))
  have X3 := hide1 (X1.out.grown hg1 hne)
  have M3 : Mine B w1 a1 c1 (marks k ds.length) := ⟨by rw [marks_len]; exact H1.out.fits, H1.out.most, r1, by rw [marks_len]; exact f1, fun ad e => by have := M1.out.lies ad e; exact ⟨this.1, by rw [hz1]; exact this.2.1, this.2.2⟩, H1.out.bare⟩
  have HM3 := hide1 M3
  have HG := hide1 (grownBy_trans (World.grownBy_alloc w (.cells #[.bool b, .slice a1 ds.length c1, .int .i64 s, .slice a2 zs.length c2] 28) (blk a1)) hg1)
  have HM2 : Hid _ := markWindow_any B a2 c2 zs s (k + ds.length) w1 H3.out (by omega) (by omega)
  obtain ⟨x0, x1, x2, x3⟩ := X3.out.four
  clear r1 f1 hg1 hz1 M3 HM H2 X1 M1
  go_wp2_with fail
  refine Calls.mono HM2.out ?_
  rintro e w2 ⟨rfl, m2, hg2⟩
  have m3 := HM3.out.grown hg2 (by intro q e h; exact hap q h e)
  clear HM2
  go_wp2_with fail
  go_ret
  exact ⟨rfl, m3, m2, w1, HG.out, hg2⟩

set_option maxHeartbeats 1600000 in
theorem heldCopy_any (a1 a2 : Option Addr) (c1 c2 n1 n2 : Nat) (b : Bool) (s : Int) (k : Nat) (w : World) (h1 : Row w a1 (marks k n1)) (h2 : Row w a2 (marks (k + n1) n2)) (hd : n1 ≤ 4194304) (hn : n2 ≤ 4194304) (hk : k ≤ 4194304) :
    Calls Try.prog 17 #[.agg #[.bool b, .slice a1 n1 c1, .int .i64 s, .slice a2 n2 c2], .int .i64 k] w fun e w' => e = .returned (.int .i64 ((k + n1 + n2 : Nat) : Int)) ∧ Below w.heap.size w w' := by
  have hbl : Below w.heap.size w (w.alloc (.cells #[.bool b, .slice a1 n1 c1, .int .i64 s, .slice a2 n2 c2] 28)) := (Below.refl _ _).alloc (Nat.le_refl _) _
  have HE : Hid _ := heldByteS_any a1 c1 n1 k _ (h1.below hbl) (by omega) (by omega)
  have HW : Hid _ := heldWindow_any a2 c2 n2 s (k + n1) _ (h2.below hbl) (by omega) (by omega)
  have HB := hide1 hbl
  clear hbl h1 h2
  go_enter Try.func17, Try.ntmps17
  go_wp2_with fail
  refine Calls.mono HE.out ?_
  rintro e w1 ⟨rfl, rfl⟩
  go_wp2_with fail
  refine Calls.mono HW.out ?_
  rintro e w2 ⟨rfl, hb2⟩
  go_wp2_with fail
  go_ret
  exact ⟨rfl, HB.out.trans (hb2.mono (by simp))⟩
end Go.Proofs.Ytjknaigdlkpiaaa
