import Derived.Test.YtpbchecindmfeaaFixP
import Derived.BigRegion
namespace Go.Proofs.Ytpbchecindmfeaa
open Go.RowKit
attribute [local go_sem ↓] Go.wp_at_zero Go.wp_at_succ
set_option linter.unusedVariables false

theorem take_snocN (L : List Nat) (k : Nat) (h : k < L.length) : L.take (k + 1) = L.take k ++ [L.getD k 0] := by
  rw [List.take_succ_eq_append_getElem h]
  simp [List.getD, h]
theorem Bin.take {L : List Nat} (h : Bin L) (k : Nat) : Bin (L.take k) := fun b hb => h b (List.mem_of_mem_take hb)
theorem Bin.getD {L : List Nat} (h : Bin L) (k : Nat) : L.getD k 0 ≤ 1 := by
  by_cases hk : k < L.length
  · have : L.getD k 0 = L[k] := by simp [List.getD, hk]
    rw [this]
    exact h _ (List.getElem_mem hk)
  · simp [List.getD, hk]
set_option maxRecDepth 100000 in
set_option maxHeartbeats 6400000 in
theorem l5Bytes_any (ao : Option Addr) (cap : Nat) (L : List Nat) (w : World) (hr : Row w ao (ib L)) (hL : Bin L) (hl : L.length ≤ 2000000) :
    Calls Try.prog 17 #[.slice ao (ib L).length cap] w fun e w' => Go.Proofs.Ytpbchecindmfeaa.Code w w' (pk L) e := by
  obtain ⟨i0, hi, hz0, hz1, hz2⟩ := info_parts Try.info_u8
  have HR := hideH hr
  have HL := hideH hL
  have HO0 : Hid (OwnsB 5 w.heap.size (w.alloc (.cells #[] 5)) (some ⟨w.heap.size, 0, none⟩) 0 []) := World.ownsRow_lit w #[] 0 (Nat.le_refl _) (by unfold maxLen; omega) rfl
  have HB0 : Hid (Below w.heap.size w (w.alloc (.cells #[] 5))) := (Below.refl _ _).alloc (Nat.le_refl _) _
  obtain ⟨N, hN⟩ : ∃ N, (ib L).length = N := ⟨_, rfl⟩
  have hNL : L.length = N := by rw [← hN, ib_len]
  have HNL := hideH hNL
  rw [hN]
  have hN2 : N ≤ 2000000 := by omega
  clear hr hL hN hNL hl
  go_enter Try.func17, Try.ntmps17
  go_wp2_with fail
  go_loopw [3, 4] (fun v i wr => ∃ (k : Nat) (ao' : Option Addr) (cap' : Nat) (Z : List Int), k ≤ N ∧ i = .int .i64 k ∧ v = .slice ao' Z.length cap' ∧ Z.length ≤ 300000 ∧ Hid (Z = pk (L.take k)) ∧ Hid (OwnsB 5 w.heap.size wr ao' cap' Z) ∧ Hid (Below w.heap.size w wr)) (fun _ i _ => N - (intOf i).toNat)
  case atStart => exact ⟨0, _, 0, [], Nat.zero_le _, rfl, rfl, by simp, rfl, HO0, HB0⟩
  case round =>
    clear HO0 HB0
    obtain ⟨k, ao', cap', Z, hk, rfl, rfl, hZl, HZ, HO, HB⟩ := hrel
    by_cases hlt : k < N
    · obtain ⟨M, hM⟩ : ∃ M, L.take k = M := ⟨_, rfl⟩
      have hMl : M.length = k := by rw [← hM, List.length_take, HNL.out]; omega
      have hbM : Bin M := by rw [← hM]; exact HL.out.take k
      obtain ⟨b, hb⟩ : ∃ b, L.getD k 0 = b := ⟨_, rfl⟩
      have hb1 : b ≤ 1 := by rw [← hb]; exact HL.out.getD k
      have HNX : Hid (L.take (k + 1) = M ++ [b]) := by show _ = _; rw [take_snocN L k (by rw [HNL.out]; exact hlt), hb, hM]
      obtain ⟨bb, off, rfl, hcb⟩ := HR.out.at (k := k) (by rw [ib_len, HNL.out]; exact hlt)
      have hbw : bb < w.heap.size := World.block_lt_of_cell? w _ (hcb k (by rw [ib_len, HNL.out]; exact hlt))
      have cb := (HB.out.cell (p := ⟨bb, off + k, none⟩) hbw).trans (hcb k (by rw [ib_len, HNL.out]; exact hlt))
      rw [ib_at, hb] at cb
      rw [hM] at HZ
      have hpl := pk_len M
      rw [hMl] at hpl
      obtain ⟨I, hI⟩ : ∃ I, k / 8 = I := ⟨_, rfl⟩
      obtain ⟨r, hr⟩ : ∃ r, k % 8 = r := ⟨_, rfl⟩
      have hr8 : r < 8 := by omega
      have hIi : (k : Int) / 8 = (I : Int) := by omega
      have hIt : (k : Int).tdiv 8 = (I : Int) := by rw [Int.tdiv_eq_ediv_of_nonneg (by omega)]; exact hIi
      have hri : (k : Int) % 8 = (r : Int) := by omega
      have hrt : (k : Int).tmod 8 = (r : Int) := by rw [Int.tmod_eq_emod_of_nonneg (by omega)]; exact hri
      have hrw : IntKind.u64.wrap (r : Int) = (r : Int) := by rw [IntKind.wrap_u64]; omega
      have hmr : min r 8 = r := by omega
      obtain ⟨T, hT⟩ : ∃ T, b * 2 ^ r = T := ⟨_, rfl⟩
      have hT1 : T ≤ 128 := by
        rw [← hT]
        have h1 : 2 ^ r ≤ 2 ^ 7 := Nat.pow_le_pow_right (by decide) (by omega)
        have h2 : b * 2 ^ r ≤ 1 * 2 ^ r := Nat.mul_le_mul_right _ hb1
        omega
      have hshl : IntKind.u8.wrap ((b : Int) * 2 ^ r) = (T : Int) := by
        rw [show ((2 : Int) ^ r) = ((2 ^ r : Nat) : Int) from (Int.natCast_pow 2 r).symm, ← Int.natCast_mul, hT]
        simp [IntKind.wrap, IntKind.bits, IntKind.signed]
        omega
      have HI := hideH hI
      have HR8 := hideH hr
      have HT := hideH hT
      have HPL := hideH hpl
      have HML := hideH hMl
      have HBM := hideH hbM
      have hBw := HB.out.size
      have hk2 : k ≤ 2000000 := by omega
      clear hM hI hT hbM hb hMl hpl hr hcb
      by_cases h8 : r = 0
      · subst h8
        have hpl8 : Z.length = I := by rw [HZ.out, HPL.out, ← HI.out]; have := HR8.out; omega
        have hTb : T = b := by rw [← HT.out]; simp
        subst hTb
        have HPL8 := hideH hpl8
        have HOA := hideH (fun A t => HO.out.below ((Below.refl _ _).alloc (Nat.le_refl _) (.cells A t)))
        have HBA := hideH (fun A t => HB.out.trans (((Below.refl _ _).alloc (Nat.le_refl _) (.cells A t)).mono hBw))
        have HIb : Hid (I + 1 ≤ 300000) := by show _ ≤ _; rw [← HI.out]; omega
        clear hpl8
        go_wp2_with (at_builtin; refine wpList_append_row _ rfl _ _ 22 rfl w.heap.size 5 i0 (.int .u8 0) 1 Try.underlying22 hi hz0 hz1 hz2 rfl (.slice ao' Z.length cap') Z.length (Z.map (Value.int .u8)) rfl (HOA.out _ _) (some ⟨wr.heap.size, 0, none⟩) 1 [0] rfl (row_oneB wr 0 5) (fun e => by cases e) (by unfold maxLen; simp; omega) (by simp; omega) (by simp; omega) ?_)
        intro v' w2 hown hgrow hat
        have hown2 : w2.ownsRow w.heap.size 5 1 v' (Z.length + 1) ((Z ++ [0]).map (Value.int .u8)) := by
          rw [List.map_append]
          exact hown
        obtain ⟨ao2, cap2, rfl, ho2⟩ := OwnsB.of hown2
        rw [blk_own] at hgrow
        have hB2 : Below w.heap.size w w2 := (HBA.out _ _).grown hgrow (by simp; omega) (fun q e => HO.out.base q e)
        have cb2 := (hB2.cell (p := ⟨bb, off + k, none⟩) hbw).trans ((HB.out.cell (p := ⟨bb, off + k, none⟩) hbw).symm.trans cb)
        obtain ⟨Z2, hZ2⟩ : ∃ Z2, Z ++ [0] = Z2 := ⟨_, rfl⟩
        rw [hZ2] at ho2 ⊢
        have hZl2 : Z2.length = I + 1 := by rw [← hZ2, List.length_append, HPL8.out]; rfl
        obtain ⟨g, rfl, hgp, hgw, hgc⟩ := ho2.at (by omega)
        have hI2 : I < Z2.length := by omega
        have cx := ho2.cell hI2
        have fx : w2.frozen? ⟨g, I, none⟩ = false := World.ownsRow.frozenAt ho2 I
        have hx0 : Z2.getD I 0 = 0 := by rw [← hZ2, ← HPL8.out]; simp [List.getD]
        rw [hx0] at cx
        have hNEW : Z2.set I (T : Int) = pk (M ++ [T]) := by
          rw [pk_snoc, pkOne, HML.out, if_pos HR8.out, ← hZ2, ← HPL8.out, List.set_append_right _ _ (Nat.le_refl _), Nat.sub_self, HZ.out]
          rfl
        have HNEW := hideH hNEW
        have o2 := ho2.set I (T : Int)
        have hBs := hB2.setCell (p := ⟨g, I, none⟩) hgp (.int .u8 (T : Int))
        have HO2 := hideH (o2.below ((Below.refl _ _).drew))
        have HB2 := hideH hBs.drew
        have HL2 : Hid ((Z2.set I (T : Int)).length = Z2.length) := List.length_set
        have HZ2l := hideH hZl2
        clear hown hown2 hgrow hat ho2 o2 hBs hB2 hx0 hNEW hZ2 hZl2 HOA HBA cb
        go_upto_region 7 with fail
        go_region
        go_wp2_with fail
        refine ⟨⟨k + 1, _, cap2, Z2.set I (T : Int), by omega, by go_num, by rw [HL2.out], by rw [HL2.out, HZ2l.out]; exact HIb.out, ?_, HO2, HB2⟩, by simp [intOf]; omega⟩
        show _ = _
        rw [HNX.out, HNEW.out]
      · have hrb : ((r : Int) == 0) = false := by rw [beq_eq_false_iff_ne]; omega
        have hI2 : I < Z.length := by rw [HZ.out, HPL.out, ← HI.out]; have := HR8.out; omega
        obtain ⟨g, rfl, hgp, hgw, hgc⟩ := HO.out.at (by omega)
        obtain ⟨x, hx, hx2⟩ := pk_top M HBM.out (by rw [HML.out, HR8.out]; exact h8)
        rw [HML.out, HI.out, ← HZ.out] at hx
        rw [HML.out, HR8.out] at hx2
        have cx := HO.out.cell hI2
        have fx : wr.frozen? ⟨g, I, none⟩ = false := World.ownsRow.frozenAt HO.out I
        have hxT : x + T ≤ 255 := by
          have h1 : 2 ^ r ≤ 2 ^ 7 := Nat.pow_le_pow_right (by decide) (by omega)
          omega
        have HNEW : Hid (Z.set I ((x : Int) + (T : Int)) = pk (M ++ [b])) := by
          show _ = _
          rw [pk_snoc, pkOne, HML.out, HR8.out, if_neg h8, HI.out, ← HZ.out, hx, HT.out]
        rw [hx] at cx
        have o2 := HO.out.set I ((x : Int) + (T : Int))
        have hBs := HB.out.setCell (p := ⟨g, I, none⟩) hgp (.int .u8 ((x : Int) + (T : Int)))
        have HO2 := hideH (o2.below ((Below.refl _ _).drew))
        have HB2 := hideH hBs.drew
        have hl2 : (Z.set I ((x : Int) + (T : Int))).length = Z.length := List.length_set
        have HL2 := hideH hl2
        clear hx hx2 o2 hBs hl2
        go_upto_region 7 with fail
        go_region
        go_wp2_with fail
        refine ⟨⟨k + 1, _, cap', Z.set I ((x : Int) + (T : Int)), by omega, by go_num, by rw [HL2.out], by rw [HL2.out]; exact hZl, ?_, HO2, HB2⟩, by simp [intOf]; omega⟩
        show _ = _
        rw [HNX.out, HNEW.out]
    · have e : k = N := by omega
      subst e
      have hZe : Z = pk L := by rw [HZ.out, List.take_of_length_le (by rw [HNL.out]; exact Nat.le_refl _)]
      subst hZe
      go_wp2_with fail
      go_ret
      exact ⟨ao', cap', rfl, HO.out, HB.out⟩
end Go.Proofs.Ytpbchecindmfeaa
