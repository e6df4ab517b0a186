import Derived.Test.YtpbchecindmfeaaBitM
import Derived.Test.YtpbchecindmfeaaHCS
import Derived.BigRegion
namespace Go.Proofs.Ytpbchecindmfeaa
open Go.RowKit
attribute [local go_sem ↓] Go.wp_at_zero Go.wp_at_succ
set_option linter.unusedVariables false

/-- A writer of bits in block p: what it has written. -/
structure BW (w : World) (p : Nat) (L : List Nat) : Prop where
  code : ∃ ao cap, w.cell? ⟨p, 0, none⟩ = some (.slice ao (pk L).length cap) ∧ OwnsB 5 (p + 1) w ao cap (pk L)
  used : w.cell? ⟨p, 1, none⟩ = some (.int .i64 (L.length : Nat))
  f0 : w.frozen? ⟨p, 0, none⟩ = false
  f1 : w.frozen? ⟨p, 1, none⟩ = false
theorem BW.lt {w : World} {p : Nat} {L : List Nat} (h : BW w p L) : p < w.heap.size := World.block_lt_of_cell? w _ h.used
theorem BW.below {w w' : World} {p : Nat} {L : List Nat} (h : BW w p L) (hb : Below w.heap.size w w') : BW w' p L := by
  obtain ⟨⟨ao, cap, h1, h2⟩, h3, h4, h5⟩ := h
  have hp := World.block_lt_of_cell? w _ h3
  exact ⟨⟨ao, cap, (hb.cell (p := ⟨p, 0, none⟩) hp).trans h1, h2.below hb⟩, (hb.cell (p := ⟨p, 1, none⟩) hp).trans h3, (hb.frozen (p := ⟨p, 0, none⟩) hp).trans h4, (hb.frozen (p := ⟨p, 1, none⟩) hp).trans h5⟩
theorem OwnsB.at {B : Nat} {e : TypeId} {w : World} {ao : Option Addr} {cap : Nat} {zs : List Int} (h : OwnsB e B w ao cap zs) (h0 : 0 < zs.length) : ∃ g, ao = some ⟨g, 0, none⟩ ∧ B ≤ g ∧ g < w.heap.size ∧ zs.length ≤ cap := by
  rcases h.2 with ⟨_, h1⟩ | ⟨g', cap', cur, h1, h2, h3, h4, _⟩
  · omega
  · simp only [Value.slice.injEq, true_and] at h1
    obtain ⟨rfl, rfl⟩ := h1
    exact ⟨g', rfl, h2, (Array.getElem?_eq_some_iff.1 h3).1, h4⟩
theorem OwnsB.cell {B g : Nat} {e : TypeId} {w : World} {cap : Nat} {zs : List Int} (h : OwnsB e B w (some ⟨g, 0, none⟩) cap zs) {k : Nat} (hk : k < zs.length) : w.cell? ⟨g, k, none⟩ = some (.int .u8 (zs.getD k 0)) := by
  have := World.ownsRow.cellAt h k (by omega)
  rw [this]
  simp [List.getD, hk]
theorem OwnsB.set {B g : Nat} {e : TypeId} {w : World} {cap : Nat} {zs : List Int} (h : OwnsB e B w (some ⟨g, 0, none⟩) cap zs) (k : Nat) (x : Int) : OwnsB e B (w.setCell ⟨g, k, none⟩ (.int .u8 x)) (some ⟨g, 0, none⟩) cap (zs.set k x) := by
  have h1 := (World.ownsRow.stored h k (.int .u8 x)).1
  unfold OwnsB
  rw [List.length_set, List.map_set]
  exact h1
theorem row_oneB (w : World) (x : Int) (t : TypeId) : Row (w.alloc (.cells #[.int .u8 x] t)) (some ⟨w.heap.size, 0, none⟩) [x] := by
  refine Row.of fun i hi => ?_
  simp at hi
  subst hi
  simp [go_sem]
theorem BW.finish {w wr : World} {p g I cap U b : Nat} {Z : List Int} {v : Int} {M : List Nat} (ho : OwnsB 5 (p + 1) wr (some ⟨g, 0, none⟩) cap Z) (c0 : wr.cell? ⟨p, 0, none⟩ = some (.slice (some ⟨g, 0, none⟩) Z.length cap)) (c1 : wr.cell? ⟨p, 1, none⟩ = some (.int .i64 U)) (f0 : wr.frozen? ⟨p, 0, none⟩ = false) (f1 : wr.frozen? ⟨p, 1, none⟩ = false)
    (hZ : Z.set I v = pk (M ++ [b])) (hU : M.length = U) (hb : Below p w wr) (hgp : p + 1 ≤ g) : BW (((wr.setCell ⟨g, I, none⟩ (.int .u8 v)).drew).setCell ⟨p, 1, none⟩ (.int .i64 ((U : Int) + 1))) p (M ++ [b]) ∧ Below p w (((wr.setCell ⟨g, I, none⟩ (.int .u8 v)).drew).setCell ⟨p, 1, none⟩ (.int .i64 ((U : Int) + 1))) := by
  have hpw : p < wr.heap.size := World.block_lt_of_cell? wr _ c1
  have o1 := ho.set I v
  rw [hZ] at o1
  have hd : Below (wr.setCell ⟨g, I, none⟩ (.int .u8 v)).heap.size (wr.setCell ⟨g, I, none⟩ (.int .u8 v)) (wr.setCell ⟨g, I, none⟩ (.int .u8 v)).drew := (Below.refl _ _).drew
  have o2 := o1.below hd
  have o3 := o2.grown (grownBy_setCell _ ⟨p, 1, none⟩ (.int .i64 ((U : Int) + 1))) (fun k e he => by simp [blk] at e he; omega)
  have d0 : (wr.setCell ⟨g, I, none⟩ (.int .u8 v)).drew.cell? ⟨p, 0, none⟩ = some (.slice (some ⟨g, 0, none⟩) Z.length cap) := by
    rw [← c0]
    exact World.cell?_setCell_other _ _ _ _ (by first | (simp; done) | (simp; omega))
  have d1 : (wr.setCell ⟨g, I, none⟩ (.int .u8 v)).drew.cell? ⟨p, 1, none⟩ = some (.int .i64 U) := by
    rw [← c1]
    exact World.cell?_setCell_other _ _ _ _ (by first | (simp; done) | (simp; omega))
  have hl : Z.length = (pk (M ++ [b])).length := by rw [← hZ, List.length_set]
  refine ⟨⟨⟨some ⟨g, 0, none⟩, cap, ?_, o3⟩, ?_, ?_, ?_⟩, ?_⟩
  · rw [World.cell?_setCell_other _ _ _ _ (by simp), d0, hl]
  · rw [World.cell?_setCell_same _ _ _ d1]
    simp [hU]
  · rw [World.frozen?_setCell]
    show (wr.setCell _ _).frozen? _ = _
    rw [World.frozen?_setCell]
    exact f0
  · rw [World.frozen?_setCell]
    show (wr.setCell _ _).frozen? _ = _
    rw [World.frozen?_setCell]
    exact f1
  · have x1 := hb.setCell (p := ⟨g, I, none⟩) (by show p ≤ g; omega) (.int .u8 v)
    exact (x1.drew).setCell (p := ⟨p, 1, none⟩) (Nat.le_refl _) _
set_option maxRecDepth 100000 in
set_option maxHeartbeats 6400000 in
/-- The end of a round: one bit into a byte that is there. -/
theorem bitput_any (p V n : Nat) (L : List Nat) (w : World) (hW : BW w p L) (hL : Bin L) (hn : n ≤ 64) (hV : V < 2 ^ 64) (hl : L.length ≤ 2000000) :
    Calls Try.prog 20 #[.pointer (some ⟨p, 0, none⟩), .int .u64 V, .int .i64 n] w fun e w' => e = .returned (.tuple #[]) ∧ BW w' p (L ++ bitsOf V n) ∧ Below p w w' := by
  obtain ⟨i0, hi, hz0, hz1, hz2⟩ := info_parts Try.info_u8
  have HW := hideH hW
  have HL := hideH hL
  have hpw := hW.lt
  clear hW hL
  go_enter Try.func20, Try.ntmps20
  go_wp2_with fail
  go_loopw [8] (fun i wr => ∃ k : Nat, k ≤ n ∧ i = .int .i64 k ∧ Hid (BW wr p (L ++ bitsOf V k)) ∧ Hid (Below p w wr)) (fun i _ => n - (intOf i).toNat)
  case atStart => exact ⟨0, Nat.zero_le _, rfl, by show BW w p _; rw [bitsOf_zero, List.append_nil]; exact HW.out, Below.refl _ _⟩
  case round =>
    clear HW
    obtain ⟨k, hk, rfl, HW, HB⟩ := hrel
    by_cases hlt : k < n
    · obtain ⟨M, hM⟩ : ∃ M, L ++ bitsOf V k = M := ⟨_, rfl⟩
      have hbM : Bin M := by rw [← hM]; exact HL.out.app (bitsOf_bin V k)
      have hMl : M.length = L.length + k := by rw [← hM, List.length_append, bitsOf_len]
      obtain ⟨b, hb⟩ : ∃ b, V / 2 ^ k % 2 = b := ⟨_, rfl⟩
      have hb1 : b ≤ 1 := by omega
      have HNX : Hid (L ++ bitsOf V (k + 1) = M ++ [b]) := by show _ = _; rw [bitsOf_succ, hb, ← hM, List.append_assoc]
      have hVk : V / 2 ^ k < 2 ^ 64 := Nat.lt_of_le_of_lt (Nat.div_le_self _ _) hV
      have hand := and_one (V / 2 ^ k) hVk
      rw [hb] at hand
      rw [hM] at HW
      have hsh : (V : Int) / 2 ^ k = ((V / 2 ^ k : Nat) : Int) := by
        rw [show ((2 : Int) ^ k) = ((2 ^ k : Nat) : Int) from (Int.natCast_pow 2 k).symm]
        exact (Int.natCast_ediv V (2 ^ k)).symm
      generalize V / 2 ^ k = V2 at *
      have hVw : IntKind.u64.wrap (V2 : Int) = (V2 : Int) := by rw [IntKind.wrap_u64]; omega
      obtain ⟨⟨ao, cap, c0, ho⟩, c1, f0, f1⟩ := HW.out
      obtain ⟨U, hU⟩ : ∃ U, M.length = U := ⟨_, rfl⟩
      rw [hU] at c1 hMl
      have hpl := pk_len M
      rw [hU] at hpl
      obtain ⟨I, hI⟩ : ∃ I, U / 8 = I := ⟨_, rfl⟩
      obtain ⟨r, hr⟩ : ∃ r, U % 8 = r := ⟨_, rfl⟩
      have hr8 : r < 8 := by omega
      have hIi : (U : Int) / 8 = (I : Int) := by omega
      have hIt : (U : Int).tdiv 8 = (I : Int) := by rw [Int.tdiv_eq_ediv_of_nonneg (by omega)]; exact hIi
      have hri : (U : Int) % 8 = (r : Int) := by omega
      have hrt : (U : Int).tmod 8 = (r : Int) := by rw [Int.tmod_eq_emod_of_nonneg (by omega)]; exact hri
      have hU2 : U ≤ 2000100 := by omega
      obtain ⟨T, hT⟩ : ∃ T, b * 2 ^ r = T := ⟨_, rfl⟩
      have hT1 : T ≤ 128 := by
        rw [← hT]
        have h1 : 2 ^ r ≤ 2 ^ 7 := Nat.pow_le_pow_right (by decide) (by omega)
        have h2 : b * 2 ^ r ≤ 1 * 2 ^ r := Nat.mul_le_mul_right _ hb1
        omega
      have hshl : IntKind.u8.wrap ((b : Int) * 2 ^ r) = (T : Int) := by
        rw [show ((2 : Int) ^ r) = ((2 ^ r : Nat) : Int) from (Int.natCast_pow 2 r).symm, ← Int.natCast_mul, hT]
        simp [IntKind.wrap, IntKind.bits, IntKind.signed]
        omega
      have hbw : IntKind.u8.wrap (b : Int) = (b : Int) := by
        simp [IntKind.wrap, IntKind.bits, IntKind.signed]
        omega
      have hb256 : (b : Int) % 256 = (b : Int) := by omega
      have hplt : p < wr.heap.size := HW.out.lt
      have HU := hideH hU
      have HI := hideH hI
      have HR := hideH hr
      have HT := hideH hT
      have HBM := hideH hbM
      have HO := hideH ho
      have HPL := hideH hpl
      clear hM hU hI hT hbM ho HW hb hVk hV hMl hpl hr
      by_cases h8 : r = 0
      · subst h8
        have HOA := hideH (fun A t => HO.out.below ((Below.refl _ _).alloc (Nat.le_refl _) (.cells A t)))
        have HBA := hideH (fun A t => HB.out.trans (((Below.refl _ _).alloc (Nat.le_refl _) (.cells A t)).mono (Nat.le_of_lt hplt)))
        have hpl8 : (pk M).length = I := by rw [HPL.out, ← HI.out]; have := HR.out; omega
        have hb0 : T = b := by rw [← HT.out]; simp
        have hsz : p + 1 ≤ wr.heap.size := hplt
        have hz0' : (pk M).length ≤ 1000000 := by rw [hpl8, ← HI.out]; omega
        have HPL8 := hideH hpl8
        clear hpl8
        go_wp2_with (at_builtin; refine wpList_append_row _ rfl _ _ 22 rfl (p + 1) 5 i0 (.int .u8 0) 1 Try.underlying22 hi hz0 hz1 hz2 rfl (.slice ao (pk M).length cap) (pk M).length ((pk M).map (Value.int .u8)) rfl (HOA.out _ _) (some ⟨wr.heap.size, 0, none⟩) 1 [0] rfl (row_oneB wr 0 5) (fun e => by cases e) (by unfold maxLen; simp; omega) (by simp; omega) (by simp; omega) ?_)
        intro v' w2 hown hgrow hat
        have hown2 : w2.ownsRow (p + 1) 5 1 v' ((pk M).length + 1) ((pk M ++ [0]).map (Value.int .u8)) := by
          rw [List.map_append]
          exact hown
        obtain ⟨ao2, cap2, rfl, ho2⟩ := OwnsB.of hown2
        rw [blk_own] at hgrow
        have hB2 : Below p w w2 := (HBA.out _ _).grown hgrow (by simp; omega) (fun q e => by have := HO.out.base q e; omega)
        have hblk : w2.heap[p]? = wr.heap[p]? := (hgrow.block p (by simp; omega) (fun e => by have := HO.out.base p e.symm; omega)).trans ((grownBy_of_below ((Below.refl wr.heap.size wr).alloc (Nat.le_refl _) (.cells #[.int .u8 0] 5)) none).block p hplt (by simp))
        have d0 := (World.cell?_of_block (a := ⟨p, 0, none⟩) hblk).trans c0
        have d1 := (World.cell?_of_block (a := ⟨p, 1, none⟩) hblk).trans c1
        have e0 := (World.frozen?_of_block (a := ⟨p, 0, none⟩) hblk).trans f0
        have e1 := (World.frozen?_of_block (a := ⟨p, 1, none⟩) hblk).trans f1
        have hp2 : p < w2.heap.size := World.block_lt_of_cell? w2 _ d1
        obtain ⟨Z, hZ⟩ : ∃ Z, pk M ++ [0] = Z := ⟨_, rfl⟩
        rw [hZ] at ho2 ⊢
        have hZl : Z.length = I + 1 := by rw [← hZ, List.length_append, HPL8.out]; rfl
        obtain ⟨g, rfl, hgp, hgw, hgc⟩ := ho2.at (by omega)
        have ho3 := ho2.grown (grownBy_setCell w2 ⟨p, 0, none⟩ (.slice (some ⟨g, 0, none⟩) Z.length cap2)) (fun k e he => by simp [blk] at e he; omega)
        have g0 : (w2.setCell ⟨p, 0, none⟩ (.slice (some ⟨g, 0, none⟩) Z.length cap2)).cell? ⟨p, 0, none⟩ = some (.slice (some ⟨g, 0, none⟩) Z.length cap2) := World.cell?_setCell_same _ _ _ d0
        have g1 : (w2.setCell ⟨p, 0, none⟩ (.slice (some ⟨g, 0, none⟩) Z.length cap2)).cell? ⟨p, 1, none⟩ = some (.int .i64 U) := by rw [World.cell?_setCell_other _ _ _ _ (by simp)]; exact d1
        have h0' : (w2.setCell ⟨p, 0, none⟩ (.slice (some ⟨g, 0, none⟩) Z.length cap2)).frozen? ⟨p, 0, none⟩ = false := by rw [World.frozen?_setCell]; exact e0
        have h1' : (w2.setCell ⟨p, 0, none⟩ (.slice (some ⟨g, 0, none⟩) Z.length cap2)).frozen? ⟨p, 1, none⟩ = false := by rw [World.frozen?_setCell]; exact e1
        have cx := ho3.cell (k := I) (by omega)
        have fx : (w2.setCell ⟨p, 0, none⟩ (.slice (some ⟨g, 0, none⟩) Z.length cap2)).frozen? ⟨g, I, none⟩ = false := World.ownsRow.frozenAt ho3 I
        have hx0 : Z.getD I 0 = 0 := by rw [← hZ, ← HPL8.out]; simp [List.getD]
        rw [hx0] at cx
        have hor : bits .or .u8 (0 : Int) (b : Int) = (b : Int) := by simpa using or_add 0 0 b (by decide) hb1 (by decide)
        have hNEW : Z.set I (b : Int) = pk (M ++ [b]) := by
          rw [pk_snoc, pkOne, HU.out, if_pos HR.out, ← hZ, ← HPL8.out, List.set_append_right _ _ (Nat.le_refl _), Nat.sub_self]
          rfl
        have hB3 := hB2.setCell (p := ⟨p, 0, none⟩) (Nat.le_refl _) (.slice (some ⟨g, 0, none⟩) Z.length cap2)
        obtain ⟨KB, KL⟩ := BW.finish (I := I) ho3 g0 g1 h0' h1' hNEW HU.out hB3 hgp
        have HKB := hideH KB
        have HKL := hideH KL
        have hI3 : I < Z.length := by omega
        have hp3 : p < (w2.setCell ⟨p, 0, none⟩ (.slice (some ⟨g, 0, none⟩) Z.length cap2)).heap.size := by simpa using hp2
        subst hb0
        clear hown hown2 hgrow hat KB KL hB2 hB3 hNEW hx0 ho2 ho3 hblk c0 c1 f0 f1 HOA HBA hZl hZ
        obtain ⟨w3, hw3⟩ : ∃ w3, w2.setCell ⟨p, 0, none⟩ (.slice (some ⟨g, 0, none⟩) Z.length cap2) = w3 := ⟨_, rfl⟩
        rw [hw3] at HKB HKL g0 g1 h0' h1' cx fx hp3
        have G0 := hideH g0
        have G1 := hideH g1
        have CX := hideH cx
        clear g0 g1 cx
        go_upto_region 5 with fail
        have g0 := G0.out
        have g1 := G1.out
        have cx := CX.out
        clear hw3 d0 d1 e0 e1
        go_region
        go_wp2_with fail
        refine ⟨⟨k + 1, by omega, by go_num, ?_, ?_⟩, by simp [intOf]; omega⟩
        · show BW _ p _
          rw [HNX.out]
          exact HKB.out
        · exact HKL
      · have hrb : ((r : Int) == 0) = false := by rw [beq_eq_false_iff_ne]; omega
        have hI2 : I < (pk M).length := by rw [HPL.out, ← HI.out]; have := HR.out; omega
        obtain ⟨g, rfl, hgp, hgw, hgc⟩ := HO.out.at (by omega)
        obtain ⟨x, hx, hx2⟩ := pk_top M HBM.out (by rw [HU.out, HR.out]; exact h8)
        rw [HU.out, HI.out] at hx
        rw [HU.out, HR.out] at hx2
        have cx := HO.out.cell hI2
        rw [hx] at cx
        have fx : wr.frozen? ⟨g, I, none⟩ = false := World.ownsRow.frozenAt HO.out I
        have hor := or_add r x b hr8 hb1 hx2
        rw [HT.out, Int.natCast_add] at hor
        have HNEW : Hid ((pk M).set I ((x : Int) + (T : Int)) = pk (M ++ [b])) := by
          show _ = _
          rw [pk_snoc, pkOne, HU.out, HR.out, if_neg h8, HI.out, hx, HT.out]
        clear hx hx2
        obtain ⟨KB, KL⟩ := BW.finish (I := I) HO.out c0 c1 f0 f1 HNEW.out HU.out HB.out hgp
        have HKB := hideH KB
        have HKL := hideH KL
        clear KB KL
        go_upto_region 5 with fail
        go_region
        go_wp2_with fail
        refine ⟨⟨k + 1, by omega, by go_num, ?_, ?_⟩, by simp [intOf]; omega⟩
        · show BW _ p _
          rw [HNX.out]
          exact HKB.out
        · exact HKL
    · have e : k = n := by omega
      subst e
      go_wp2_with fail
      go_end0
      exact ⟨rfl, HW.out, HB.out⟩
end Go.Proofs.Ytpbchecindmfeaa
