import Derived.Test.YtpbchecindmfeaaEnc
namespace Go.Proofs.Ytpbchecindmfeaa
open Go.RowKit
attribute [local go_sem ↓] Go.wp_at_zero Go.wp_at_succ
set_option linter.unusedVariables false

theorem hideE {p : Prop} (h : p) : Hid p := h
theorem row_five (w : World) (a b c d e : Int) (t : TypeId) : Row (w.alloc (.cells #[.int .u8 a, .int .u8 b, .int .u8 c, .int .u8 d, .int .u8 e] t)) (some ⟨w.heap.size, 0, none⟩) [a, b, c, d, e] := by
  refine Row.of fun i hi => ?_
  simp at hi
  rcases (by omega : i = 0 ∨ i = 1 ∨ i = 2 ∨ i = 3 ∨ i = 4) with rfl | rfl | rfl | rfl | rfl <;> simp [go_sem]
theorem xor_max (a : Nat) (h : a < 256) : bits .xor .u8 IntKind.u8.max (a : Int) = ((255 - a : Nat) : Int) := by
  have h1 : ∀ a : Fin 256, bits .xor .u8 IntKind.u8.max ((a.val : Nat) : Int) = ((255 - a.val : Nat) : Int) := by decide +kernel
  exact h1 ⟨a, h⟩
theorem headS_eq (l n : Nat) : [(l : Int), (n : Int) % 256, (n : Int) / 256 % 256, bits .xor .u8 IntKind.u8.max ((n : Int) % 256), bits .xor .u8 IntKind.u8.max ((n : Int) / 256 % 256)] = headS l n := by
  rw [show (n : Int) % 256 = ((n % 256 : Nat) : Int) from by omega, show (n : Int) / 256 % 256 = ((n / 256 % 256 : Nat) : Int) from by omega, xor_max _ (by omega), xor_max _ (by omega)]
  rfl
theorem blk_own (ao : Option Addr) (n cap : Nat) : (Value.slice ao n cap).ownBlock = blk ao := by cases ao <;> rfl
theorem OwnsB.base {e B : Nat} {w : World} {ao : Option Addr} {cap : Nat} {zs : List Int} (h : OwnsB e B w ao cap zs) : ∀ g, blk ao = some g → B ≤ g := by
  intro g e
  rcases Nat.lt_or_ge g B with h1 | h1
  · exact absurd e (h.mine.far h1)
  · exact h1
/-- Bytes below B stay. -/
theorem Row.beneath {w w' : World} {B : Nat} {ao : Option Addr} {zs : List Int} (h : Row w ao zs) (hb : Below B w w') (hl : ∀ ad, ao = some ad → 0 < zs.length → ad.block < B) : Row w' ao zs := by
  intro i hi
  obtain ⟨b, off, rfl, hc⟩ := h i hi
  exact ⟨b, off, rfl, by rw [hb.cell (p := ⟨b, off + i, none⟩) (hl ⟨b, off, none⟩ rfl (by omega))]; exact hc⟩
set_option maxRecDepth 100000 in
set_option maxHeartbeats 6400000 in
theorem appendStored_any (B : Nat) (ao co : Option Addr) (cap cc : Nat) (zs ds : List Int) (l : Nat) (w : World) (ho : OwnsB 5 B w ao cap zs) (hr : Row w co ds) (hco : ∀ ad, co = some ad → 0 < ds.length → ad.block < B) (hnil : co = none → ds.length = 0 ∧ cc = 0) (hB : B ≤ w.heap.size) (hz : zs.length ≤ 1000000) (hd : ds.length ≤ 100000) (hl : l ≤ 1) :
    Calls Try.prog 13 #[.slice ao zs.length cap, .int .u8 l, .slice co ds.length cc] w fun e w' => ∃ ao' cap', e = .returned (.slice ao' (zs ++ blkS l ds).length cap') ∧ OwnsB 5 B w' ao' cap' (zs ++ blkS l ds) ∧ Below B w w' := by
  obtain ⟨i0, hi, hz0, hz1, hz2⟩ := info_parts Try.info_u8
  obtain ⟨n, hn⟩ : ∃ n, ds.length = n := ⟨_, rfl⟩
  have HN := hideE hn
  have hbA : ∀ A t, Below w.heap.size w (w.alloc (.cells A t)) := fun A t => (Below.refl _ _).alloc (Nat.le_refl _) _
  have HR := hideE hr
  have HNIL := hideE hnil
  have HCO := hideE hco
  rw [hn] at hd
  go_enter Try.func13, Try.ntmps13
  rw [hn]
  have HO := hideE (fun A t => ho.below (hbA A t))
  have HBA := hideE hbA
  clear hn hr hco hnil hbA ho
  go_wp2_with (at_builtin; refine wpList_append_row _ rfl _ _ 22 rfl B 5 i0 (.int .u8 0) 1 Try.underlying22 hi hz0 hz1 hz2 rfl (.slice ao zs.length cap) zs.length (zs.map (Value.int .u8)) rfl (HO.out _ _) (some ⟨w.heap.size, 0, none⟩) 5 [(l : Int), (n : Int) % 256, (n : Int) / 256 % 256, bits .xor .u8 IntKind.u8.max ((n : Int) % 256), bits .xor .u8 IntKind.u8.max ((n : Int) / 256 % 256)] rfl (row_five w _ _ _ _ _ 5) (fun e => by cases e) (by unfold maxLen; simp; omega) (by simp; omega) (by simp; omega) ?_)
  intro v' w2 hown hgrow hat
  have hown2 : w2.ownsRow B 5 1 v' (zs.length + 5) ((zs ++ headS l n).map (Value.int .u8)) := by
    rw [← headS_eq, List.map_append]
    exact hown
  obtain ⟨ao2, cap2, rfl, ho2⟩ := OwnsB.of hown2
  rw [blk_own] at hgrow
  have hb2 : Below B w w2 := ((HBA.out _ _).mono hB).grown hgrow (by simp; omega) (fun g e => (HO.out #[] 0).base g e)
  have hr2 := HR.out.beneath hb2 HCO.out
  have hlen : (zs ++ headS l n).length = zs.length + 5 := by simp [headS]
  have hB2 : B ≤ w2.heap.size := Nat.le_trans hB hb2.size
  have HO2 := hideE ho2
  have HB2 := hideE hb2
  have HR2 := hideE hr2
  obtain ⟨Z, hZ⟩ : ∃ Z, zs ++ headS l n = Z := ⟨_, rfl⟩
  rw [hZ] at HO2 hlen ⊢
  have hz6 : Z.length ≤ 1000005 := by omega
  have HZ := hideE hZ
  have HL := hideE hlen
  clear hown hown2 hgrow hat ho2 hb2 hr2 HO HBA HR hZ hlen
  go_wp2_with (at_builtin; refine wpList_append_row _ rfl _ _ 22 rfl B 5 i0 (.int .u8 0) 1 Try.underlying22 hi hz0 hz1 hz2 rfl (.slice ao2 Z.length cap2) Z.length (Z.map (Value.int .u8)) rfl HO2.out co cc ds (by rw [HN.out]; rfl) HR2.out HNIL.out (by unfold maxLen; rw [HN.out]; omega) (by rw [HN.out]; omega) hB2 ?_)
  intro v3 w3 hown3 hgrow3 hat3
  rw [← List.map_append] at hown3
  obtain ⟨ao3, cap3, rfl, ho3⟩ := OwnsB.of hown3
  rw [blk_own] at hgrow3
  have HB3 := hideE (HB2.out.grown hgrow3 hB2 (fun g e => HO2.out.base g e))
  have hF : Z ++ ds = zs ++ blkS l ds := by rw [← HZ.out, blkS, List.append_assoc, HN.out]
  rw [hF] at ho3 ⊢
  have HO3 := hideE ho3
  clear hown3 hgrow3 hat3 ho3 hF
  go_wp2_with fail
  go_ret
  exact ⟨ao3, cap3, rfl, HO3.out, HB3.out⟩

end Go.Proofs.Ytpbchecindmfeaa
