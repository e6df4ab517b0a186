import Derived.Test.YtmfacacpoajpgacHCL
namespace Go.Proofs.Ytmfacacpoajpgac
open Go.RowKit
attribute [local go_sem ↓] Go.wp_at_zero Go.wp_at_succ
set_option linter.unusedVariables false

theorem RowH.below {B : Nat} {w w' : World} {ao : Option Addr} {n : Nat} {F : Nat → Nat × Nat} (h : RowH B w ao n F) (hb : Below w.heap.size w w') : RowH B w' ao n F := fun h0 => by
  obtain ⟨g, h1, h2, h3⟩ := h h0
  exact ⟨g, h1, h2, h3.grown (grownBy_of_below hb none) (by simp)⟩
theorem RowH.grown {B : Nat} {w w' : World} {row : Option Nat} {ao : Option Addr} {n : Nat} {F : Nat → Nat × Nat} (h : RowH B w ao n F) (hg : w.grownBy w' row) (hne : 0 < n → ∀ g, ao = some ⟨g, 0, none⟩ → B ≤ g → g < w.heap.size → some g ≠ row) : RowH B w' ao n F := fun h0 => by
  obtain ⟨g, h1, h2, h3⟩ := h h0
  exact ⟨g, h1, h2, h3.grown hg (hne h0 g h1 h2 h3.lt)⟩

theorem law_codes_big (ao : Option Addr) (n cap : Nat) (w : World) (hn : n ≤ 9223372036854775807) (hbig : 1048576 < n) :
    Calls Try.prog 3 #[.slice ao n cap] w fun e w' => e = .returned (.bool true) ∧ Below w.heap.size w w' := by
  go_enter Try.func3, Try.ntmps3
  go_wp2_with fail
  go_ret
  exact ⟨rfl, Below.refl _ _⟩

set_option maxRecDepth 100000 in
set_option maxHeartbeats 6400000 in
theorem law_codes (ao : Option Addr) (cap : Nat) (zs : List Int) (w : World) (hr : Row64 w ao zs) (hn : zs.length ≤ 1048576) :
    Calls Try.prog 3 #[.slice ao zs.length cap] w fun e w' => e = .returned (.bool true) ∧ Below w.heap.size w w' := by
  have HR := hideH hr
  have hC : nC zs ≤ 1048576 := by unfold nC; split <;> omega
  clear hr
  go_enter Try.func3, Try.ntmps3
  go_wp2_with fail
  refine (toInt64S_any ao cap zs w HR.out (by omega)).mono ?_
  rintro e w1 ⟨rfl, ho1, hb1⟩
  have R1 := hideH (Row64.owned ho1)
  have L1 := hb1
  have z1 : w.heap.size ≤ w1.heap.size := hb1.size
  clear ho1 hb1
  go_wp2_with fail
  refine (scodes_any (some ⟨w.heap.size, 0, none⟩) zs.length zs w1 R1.out hn).mono ?_
  rintro e w2 ⟨⟨aW, cW, rfl, hW2⟩, hb2⟩
  have L2 := L1.trans (hb2.mono L1.size)
  have z2 : w1.heap.size ≤ w2.heap.size := hb2.size
  have hWb : ∀ g, aW = some ⟨g, 0, none⟩ → 0 < nC zs → g < w2.heap.size := fun g e h0 => by
    obtain ⟨g', h1, _, h3⟩ := hW2 h0
    rw [h1] at e
    simp only [Option.some.injEq, Addr.mk.injEq, and_true] at e
    rw [← e]; exact h3.lt
  clear R1 hb2 L1
  go_wp2_with fail
  refine (toInt64S_any ao cap zs w2 (HR.out.below L2) (by omega)).mono ?_
  rintro e w3 ⟨rfl, ho3, hb3⟩
  have R3 := hideH (Row64.owned ho3)
  have L3 := L2.trans (hb3.mono L2.size)
  have z3 : w2.heap.size < w3.heap.size := by
    rcases ho3.2 with ⟨h', _⟩ | ⟨g', cap', cur, h', _, hg, _⟩
    · simp at h'
    · simp only [Value.slice.injEq, Option.some.injEq, Addr.mk.injEq, and_true, true_and] at h'
      obtain ⟨rfl, rfl⟩ := h'
      exact (Array.getElem?_eq_some_iff.1 hg).1
  have W3 := hW2.below hb3
  have HO3 := hideH ho3
  clear ho3 hb3 L2 hW2
  go_wp2_with fail
  refine (icodes_any (some ⟨w2.heap.size, 0, none⟩) zs.length zs w3 R3.out hn).mono ?_
  rintro e w4 ⟨⟨aG, cG, rfl, hG4⟩, hb4⟩
  have L4 := L3.trans (hb4.mono L3.size)
  have W4 := W3.below hb4
  have O4 := World.ownsRow.kept HO3.out (grownBy_of_below hb4 none) (.inr (by simp [Value.ownBlock]))
  have z4 : w3.heap.size ≤ w4.heap.size := hb4.size
  clear hb4 L3 W3 HO3 R3
  go_wp2_with fail
  refine (eqHuffS_same aG aW cG cW (nC zs) (code zs) w4 hG4.reads W4.reads hC).mono ?_
  rintro e w5 ⟨rfl, hb5⟩
  have L5 := L4.trans (hb5.mono L4.size)
  have W5 := W4.below hb5
  have G5 := hG4.below hb5
  have O5 := World.ownsRow.kept O4 (grownBy_of_below hb5 none) (.inr (by simp [Value.ownBlock]))
  have z5 : w4.heap.size ≤ w5.heap.size := hb5.size
  clear hb5 L4 W4 hG4 O4
  go_wp2_with fail
  refine (toInt64S_any ao cap zs w5 (HR.out.below L5) (by omega)).mono ?_
  rintro e w6 ⟨rfl, ho6, hb6⟩
  have R6 := hideH (Row64.owned ho6)
  have L6 := L5.trans (hb6.mono L5.size)
  have W6 := W5.below hb6
  have G6 := G5.below hb6
  have O6 := World.ownsRow.kept O5 (grownBy_of_below hb6 none) (.inr (by simp [Value.ownBlock]))
  have z6 : w5.heap.size ≤ w6.heap.size := hb6.size
  have X6 := hideH (Row64.owned O6)
  clear hb6 L5 W5 G5 O5 ho6
  go_wp2_with fail
  refine (eqInt64S_any _ _ _ _ zs zs w6 X6.out R6.out (by omega)).mono ?_
  rintro e w7 ⟨rfl, q7, e7⟩
  have hb7 : Below w6.heap.size w6 w7 := by rw [e7]; exact below_drewN' _ _ _
  rw [decide_eq_true rfl]
  have L7 := L6.trans (hb7.mono L6.size)
  have W7 := W6.below hb7
  have G7 := G6.below hb7
  have O7 := World.ownsRow.kept O6 (grownBy_of_below hb7 none) (.inr (by simp [Value.ownBlock]))
  have z7 : w6.heap.size ≤ w7.heap.size := hb7.size
  clear hb7 L6 W6 G6 O6 X6 R6 e7
  go_wp2_with fail
  refine (markInt_any _ _ w2.heap.size zs.length 1 _ w7 O7 hn (by omega)).mono ?_
  rintro e w8 ⟨rfl, hg8⟩
  have L8 := L7.grown hg8 (by have := L7.size; omega) (by intro t e; simp at e; have := L7.size; omega)
  have W8 := W7.grown hg8 (fun h0 g e _ _ => by have := hWb g e h0; simp; omega)
  have G8 := G7.grown hg8 (fun h0 g e hB _ => by simp; omega)
  have z8 : w7.heap.size ≤ w8.heap.size := hg8.size
  clear hg8 L7 W7 G7 O7
  go_wp2_with fail
  refine (eqHuffS_same aG aW cG cW (nC zs) (code zs) w8 G8.reads W8.reads hC).mono ?_
  rintro e w9 ⟨rfl, hb9⟩
  have L9 := L8.trans (hb9.mono L8.size)
  have W9 := W8.below hb9
  have G9 := G8.below hb9
  have z9 : w8.heap.size ≤ w9.heap.size := hb9.size
  clear hb9 L8 W8 G8
  go_wp2_with fail
  refine (markHuff_any w3.heap.size aG (nC zs) cG (code zs) 1 w9 G9 hC (by omega)).mono ?_
  rintro e w10 ⟨rfl, G10, hg10⟩
  have hrow : ∀ t, hRow (nC zs) aG = some t → w3.heap.size ≤ t := by
    intro t e
    unfold hRow at e
    split at e
    · cases e
    · obtain ⟨g, h1, h2, _⟩ := G9 (by omega)
      rw [h1] at e
      simp [blk] at e
      omega
  have L10 := L9.grown hg10 L9.size (by intro t e; have := hrow t e; have := L9.size; omega)
  have W10 := W9.grown hg10 (fun h0 g e _ _ h => by have h1 := hWb g e h0; have h2 := hrow g h.symm; omega)
  clear hg10 L9 W9 G9 hrow
  go_wp2_with fail
  refine (heldHuff_any w3.heap.size aG (nC zs) cG 1 w10 G10 hC (by omega)).mono ?_
  rintro e w11 ⟨rfl, rfl⟩
  go_wp2_with fail
  refine (toInt64S_any ao cap zs w11 (HR.out.below L10) (by omega)).mono ?_
  rintro e w12 ⟨rfl, ho12, hb12⟩
  have R12 := hideH (Row64.owned ho12)
  have L12 := L10.trans (hb12.mono L10.size)
  have W12 := W10.below hb12
  clear ho12 hb12 L10 W10 G10
  go_wp2_with fail
  refine (icodes_any _ zs.length zs w12 R12.out hn).mono ?_
  rintro e w13 ⟨⟨aH, cH, rfl, hH⟩, hb13⟩
  have L13 := L12.trans (hb13.mono L12.size)
  have W13 := W12.below hb13
  clear hb13 L12 W12 R12
  go_wp2_with fail
  refine (eqHuffS_same aH aW cH cW (nC zs) (code zs) w13 hH.reads W13.reads hC).mono ?_
  rintro e w14 ⟨rfl, hb14⟩
  have L14 := L13.trans (hb14.mono L13.size)
  clear hb14 L13 W13 hH
  go_wp2_with fail
  go_ret
  exact ⟨rfl, L14⟩
end Go.Proofs.Ytmfacacpoajpgac
