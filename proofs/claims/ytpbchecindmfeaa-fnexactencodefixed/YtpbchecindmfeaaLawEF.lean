import Derived.Test.YtpbchecindmfeaaFixI
import Derived.Test.YtpbchecindmfeaaFixE
namespace Go.Proofs.Ytpbchecindmfeaa
open Go.RowKit
attribute [local go_sem ↓] Go.wp_at_zero Go.wp_at_succ
set_option linter.unusedVariables false

theorem LawEF_big (ao : Option Addr) (n cap : Nat)  (w : World) (hn : n ≤ 9223372036854775807) (hbig : 1048576 < n) :
    Calls Try.prog 4 #[.slice ao n cap] w fun e w' => e = .returned (.bool true) ∧ Below w.heap.size w w' := by
  go_enter Try.func4, Try.ntmps4
  go_wp2_with fail
  go_ret
  exact ⟨rfl, Below.refl _ _⟩

set_option maxRecDepth 100000 in
set_option maxHeartbeats 6400000 in
theorem LawEF_law (ao : Option Addr) (cap : Nat) (zs : List Int)  (w : World) (hr : Row w ao zs) (hoct : Octets zs) (hn : zs.length ≤ 1048576) :
    Calls Try.prog 4 #[.slice ao zs.length cap] w fun e w' => e = .returned (.bool true) ∧ Below w.heap.size w w' := by
  have HR := hideE hr
  obtain ⟨R, hRe⟩ : ∃ R, (encF zs) = R := ⟨_, rfl⟩
  have hRl : R.length ≤ 1000000 := by rw [← hRe]; have := encF_len  zs; omega
  have HI := hideE (fun (W : World) (bo : Addr) (h : Row W (some bo) zs) => iencF_any (some bo) zs.length zs  W h hoct hn)
  have HS := hideE (fun (W : World) (bo : Addr) (h : Row W (some bo) zs) => sencF_any (some bo) zs.length zs  W h hoct hn)
  rw [hRe] at HI HS
  clear hr hRe
  go_enter Try.func4, Try.ntmps4
  go_wp2_with fail
  refine (toByteS_any ao cap zs w HR.out (by omega)).mono ?_
  rintro e w1 ⟨rfl, ho1, hb1⟩
  have R1 := hideE (Row.owned ho1)
  have L1 := hideE hb1
  clear ho1 hb1
  go_wp2_with fail
  refine (HS.out w1 _ R1.out).mono ?_
  rintro e w2 ⟨aW, cW, rfl, hW2, hb2⟩
  have W2 := hideE (OwnsB.mine hW2)
  have L2 := hideE (L1.out.trans (hb2.mono L1.out.size))
  have HWb : Hid (∀ k, w2.heap.size ≤ k → blk aW ≠ some k) := fun k hk e => by
    cases aW with
    | none => cases e
    | some ad =>
      have := (W2.out.lies ad rfl).2.1
      simp [blk] at e
      omega
  clear hW2 hb2 L1 R1
  go_wp2_with fail
  refine (toByteS_any ao cap zs w2 (HR.out.below L2.out) (by omega)).mono ?_
  rintro e w3 ⟨rfl, ho3, hb3⟩
  have L5_size : w.heap.size ≤ w2.heap.size := L2.out.size
  have X3 := hideE (OwnsB.mine (e := 5) ho3)
  have z3 : w2.heap.size < w3.heap.size := (X3.out.lies _ rfl).2.1
  have W3 := hideE (W2.out.below hb3)
  have L3 := hideE (L2.out.trans (hb3.mono L2.out.size))
  clear ho3 hb3 L2 W2
  go_wp2_with fail
  refine (HI.out w3 _ X3.out.row).mono ?_
  rintro e w4 ⟨aG, cG, rfl, hG4, hb4⟩
  have G4 := hideE (OwnsB.mine hG4)
  have W4 := hideE (W3.out.below hb4)
  have X4 := hideE (X3.out.below hb4)
  have L4 := hideE (L3.out.trans (hb4.mono L3.out.size))
  clear hG4 hb4 L3 W3 X3
  go_wp2_with fail
  refine (eqByteS_any aG aW cG cW R R w4 G4.out.row W4.out.row (by omega)).mono ?_
  rintro e w5 ⟨rfl, q5, e5⟩
  have hb5 : Below w4.heap.size w4 w5 := by rw [e5]; exact below_drewN' _ _ _
  rw [decide_eq_true rfl]
  have G5 := hideE (G4.out.below hb5)
  have W5 := hideE (W4.out.below hb5)
  have X5 := hideE (X4.out.below hb5)
  have L5 := hideE (L4.out.trans (hb5.mono L4.out.size))
  clear hb5 e5 L4 W4 X4 G4
  go_wp2_with fail
  refine (toByteS_any ao cap zs w5 (HR.out.below L5.out) (by omega)).mono ?_
  rintro e w6 ⟨rfl, ho6, hb6⟩
  have R6 := hideE (Row.owned ho6)
  have G6 := hideE (G5.out.below hb6)
  have W6 := hideE (W5.out.below hb6)
  have X6 := hideE (X5.out.below hb6)
  have L6 := hideE (L5.out.trans (hb6.mono L5.out.size))
  clear ho6 hb6 L5 W5 X5 G5
  go_wp2_with fail
  refine (eqByteS_any _ _ _ _ zs zs w6 X6.out.row R6.out (by omega)).mono ?_
  rintro e w7 ⟨rfl, q7, e7⟩
  have hb7 : Below w6.heap.size w6 w7 := by rw [e7]; exact below_drewN' _ _ _
  rw [decide_eq_true rfl]
  have G7 := hideE (G6.out.below hb7)
  have W7 := hideE (W6.out.below hb7)
  have X7 := hideE (X6.out.below hb7)
  have L7 := hideE (L6.out.trans (hb7.mono L6.out.size))
  clear hb7 e7 L6 W6 X6 G6 R6
  go_wp2_with fail
  refine (markByteS_any _ _ zs 1 w7 X7.out.row X7.out.free (by omega) (by omega)).mono ?_
  rintro e w8 ⟨rfl, _, _, hg8, hz8⟩
  have G8 := hideE (G7.out.grown hg8 (fun k e => by simp [blk] at e; exact G7.out.far (by omega)))
  have W8 := hideE (W7.out.grown hg8 (fun k e => HWb.out k (by simp [blk] at e; omega)))
  have L8 := hideE (L7.out.grown hg8 L7.out.size (by intro t e; simp [blk] at e; have := L5_size; omega))
  clear hg8 L7 W7 X7 G7 hz8
  go_wp2_with fail
  refine (eqByteS_any aG aW cG cW R R w8 G8.out.row W8.out.row (by omega)).mono ?_
  rintro e w9 ⟨rfl, q9, e9⟩
  have hb9 : Below w8.heap.size w8 w9 := by rw [e9]; exact below_drewN' _ _ _
  rw [decide_eq_true rfl]
  have G9 := hideE (G8.out.below hb9)
  have W9 := hideE (W8.out.below hb9)
  have L9 := hideE (L8.out.trans (hb9.mono L8.out.size))
  clear hb9 e9 L8 W8 G8
  go_wp2_with fail
  refine (markByteS_any aG cG R 1 w9 G9.out.row G9.out.free (by omega) (by omega)).mono ?_
  rintro e w10 ⟨rfl, M10, _, hg10, hz10⟩
  have hGb : ∀ k, blk aG = some k → w3.heap.size ≤ k := fun k e => by
    rcases Nat.lt_or_ge k w3.heap.size with h | h
    · exact absurd e (G9.out.far h)
    · exact h
  have W10 := hideE (W9.out.grown hg10 (fun k e => HWb.out k (by have := hGb k e; omega)))
  have L10 := hideE (L9.out.grown hg10 L9.out.size (by intro t e; have := hGb t e; have := L5_size; omega))
  have HM10 := hideE M10
  clear hg10 L9 W9 G9 hz10 M10 hGb
  go_wp2_with fail
  refine (heldByteS_any aG cG R.length 1 w10 HM10.out (by omega) (by omega)).mono ?_
  rintro e w11 ⟨rfl, rfl⟩
  clear HM10
  go_wp2_with fail
  refine (toByteS_any ao cap zs w11 (HR.out.below L10.out) (by omega)).mono ?_
  rintro e w12 ⟨rfl, ho12, hb12⟩
  have R12 := hideE (Row.owned ho12)
  have W12 := hideE (W10.out.below hb12)
  have L12 := hideE (L10.out.trans (hb12.mono L10.out.size))
  clear ho12 hb12 L10 W10
  go_wp2_with fail
  refine (HI.out w12 _ R12.out).mono ?_
  rintro e w13 ⟨aH, cH, rfl, hH, hb13⟩
  have H13 := hideE (OwnsB.mine hH)
  have W13 := hideE (W12.out.below hb13)
  have L13 := hideE (L12.out.trans (hb13.mono L12.out.size))
  clear hH hb13 L12 W12 R12
  go_wp2_with fail
  refine (eqByteS_any aH aW cH cW R R w13 H13.out.row W13.out.row (by omega)).mono ?_
  rintro e w14 ⟨rfl, q14, e14⟩
  have hb14 : Below w13.heap.size w13 w14 := by rw [e14]; exact below_drewN' _ _ _
  rw [decide_eq_true rfl]
  have L14 := hideE (L13.out.trans (hb14.mono L13.out.size))
  clear hb14 e14 L13 W13 H13
  go_wp2_with fail
  go_ret
  exact ⟨rfl, L14.out⟩
end Go.Proofs.Ytpbchecindmfeaa
