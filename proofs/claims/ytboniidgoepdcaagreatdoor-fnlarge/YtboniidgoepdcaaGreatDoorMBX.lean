import Derived.Deep.AppendLies
import Derived.Test.YtboniidgoepdcaaGreatDoorMAO
import Derived.Test.YtboniidgoepdcaaGreatDoorMBW
namespace Go.Proofs.YtboniidgoepdcaaGreatDoor
open Go.RowKit
attribute [local go_sem ↓] Go.wp_at_zero Go.wp_at_succ
set_option linter.unusedVariables false

def gfx (s : Nat) : Int := if 144 ≤ s ∧ s < 256 then 9 else if 256 ≤ s ∧ s < 280 then 7 else 8
theorem gfx_a {k : Nat} (h : k < 144) : gfx k = 8 := by rw [gfx, if_neg (by omega), if_neg (by omega)]
theorem gfx_b {k : Nat} (h : ¬ k < 144) (h2 : k < 256) : gfx k = 9 := by rw [gfx, if_pos (by omega)]
theorem gfx_c {k : Nat} (h : ¬ k < 256) (h2 : k < 280) : gfx k = 7 := by rw [gfx, if_neg (by omega), if_pos (by omega)]
theorem gfx_d {k : Nat} (h : ¬ k < 280) : gfx k = 8 := by rw [gfx, if_neg (by omega), if_neg (by omega)]
theorem gF288_at (s : Nat) (h : s < 288) : F288.getD s 0 = gfx s := by
  have h1 : ∀ s : Fin 288, F288.getD s.val 0 = gfx s.val := by decide +kernel
  exact h1 ⟨s, h⟩
theorem gnews1 (w : World) (x : Value) (t : TypeId) : ∀ j u, ([x] : List Value)[j]? = some u → (w.alloc (.cells #[x] t)).cell? ((⟨w.heap.size, 0, none⟩ : Addr).add j) = some u := by
  intro j u h
  have hj : j = 0 := by
    rcases Nat.eq_zero_or_pos j with h' | h'
    · exact h'
    · rw [List.getElem?_eq_none (by simp; omega)] at h; cases h
  subst hj
  simp at h
  subst h
  simp [go_sem]
set_option maxRecDepth 100000 in
set_option maxHeartbeats 6400000 in
theorem lwFixed_any (w : World) : Calls Tryz.prog 8 #[] w fun e w' => ∃ g cap, e = .returned (.slice (some ⟨g, 0, none⟩) F288.length cap) ∧ Row64 w' (some ⟨g, 0, none⟩) F288 ∧ Below w.heap.size w w' := by
  obtain ⟨i0, hi, hz0, hz1, hz2⟩ := info_parts Tryz.info_i64
  obtain ⟨w1, hw1⟩ : ∃ w1, w.alloc (.cells #[] 2) = w1 := ⟨_, rfl⟩
  have HO1 : Hid (w1.ownsRow w.heap.size 2 1 (.slice (some ⟨w.heap.size, 0, none⟩) 0 0) 0 []) := by
    rw [← hw1]
    exact World.ownsRow_lit w #[] 0 (Nat.le_refl _) (by unfold maxLen; omega) rfl
  have HB1 : Hid (Below w.heap.size w w1) := by rw [← hw1]; exact (Below.refl _ _).alloc (Nat.le_refl _) _
  go_enter Tryz.func8, Tryz.ntmps8
  go_wp2_with fail
  clear hw1
  go_loopw [1, 2, 3] (fun v i _ wr => ∃ (k g cap : Nat) (Z : List Int), k ≤ 288 ∧ i = .int .i64 k ∧ v = .slice (some ⟨g, 0, none⟩) Z.length cap ∧ Z.length ≤ 288 ∧ Hid (Z.length = k) ∧ Hid (Z = F288.take k) ∧ Hid (wr.ownsRow w.heap.size 2 1 (.slice (some ⟨g, 0, none⟩) Z.length cap) Z.length (Z.map (Value.int .i64))) ∧ Hid (Below w.heap.size w wr)) (fun _ i _ _ => 288 - (intOf i).toNat)
  case atStart => exact ⟨0, _, 0, [], Nat.zero_le _, rfl, rfl, by simp, rfl, rfl, HO1, HB1⟩
  case round =>
    clear HO1 HB1
    obtain ⟨k, g, cap, Z, hk, rfl, rfl, hZ8, HZl, HZ, HO, HB⟩ := hrel
    by_cases hlt : k < 288
    · have hgB : w.heap.size ≤ g := (HO.out.lt g rfl).1
      have hgw : g < wr.heap.size := (HO.out.lt g rfl).2
      have hBw := HB.out.size
      have HOA := hideH (fun A t => World.ownsRow.kept HO.out (World.grownBy_alloc wr (.cells A t) none) (.inr (by simp [Value.ownBlock])))
      have HBA := hideH (fun A t => HB.out.trans (((Below.refl _ _).alloc (Nat.le_refl _) (.cells A t)).mono hBw))
      by_cases h1 : k < 144
      · skip
        have HN := hideH (gnews1 wr (.int .i64 8) 2)
        have HZ2 : Hid (Z ++ [(8 : Int)] = F288.take (k + 1)) := by show _ = _; rw [HZ.out, take_snoc F288 k (by rw [F288_len]; omega), gF288_at k (by omega), gfx_a h1]
        go_wp2_with (at_builtin; refine wpList_append_lies _ rfl _ _ 30 rfl w.heap.size 2 i0 (.int .i64 0) 1 8 Tryz.underlying30 hi hz0 hz1 hz2 rfl (by decide) (.slice (some ⟨g, 0, none⟩) Z.length cap) Z.length (Z.map (Value.int .i64)) rfl (HOA.out _ _) ⟨wr.heap.size, 0, none⟩ 1 1 [.int .i64 8] rfl rfl HN.out (by intro u hu; simp at hu; subst hu; rfl) (by decide) (by unfold maxLen; omega) (by omega) (by simp; omega) _ rfl ?_)
        intro g4 c4 w4 hown hgrow hat hlt4
        have hown2 : w4.ownsRow w.heap.size 2 1 (.slice (some ⟨g4, 0, none⟩) (Z ++ [(8 : Int)]).length c4) (Z ++ [(8 : Int)]).length ((Z ++ [(8 : Int)]).map (Value.int .i64)) := by
          rw [List.map_append, List.length_append]
          exact hown
        rw [show Z.length + 1 = (Z ++ [(8 : Int)]).length from by simp]
        have HO4 := hideH hown2
        have HB4 := hideH ((HBA.out _ _).grown hgrow (by simp; omega) (by intro t e; simp [Value.ownBlock] at e; omega))
        have hl4 : (Z ++ [(8 : Int)]).length ≤ 288 := by rw [List.length_append, HZl.out]; simp; omega
        have HL4 : Hid ((Z ++ [(8 : Int)]).length = k + 1) := by show _ = _; rw [List.length_append, HZl.out]; rfl
        generalize Z ++ [(8 : Int)] = Z4 at *
        clear hown hown2 hgrow hat HN
        go_wp2_with fail
        exact ⟨⟨k + 1, g4, c4, Z4, by omega, by go_num, rfl, hl4, HL4, HZ2, HO4, HB4⟩, by simp [intOf]; omega⟩
      · by_cases h2 : k < 256
        · skip
          have HN := hideH (gnews1 wr (.int .i64 9) 2)
          have HZ2 : Hid (Z ++ [(9 : Int)] = F288.take (k + 1)) := by show _ = _; rw [HZ.out, take_snoc F288 k (by rw [F288_len]; omega), gF288_at k (by omega), gfx_b h1 h2]
          go_wp2_with (at_builtin; refine wpList_append_lies _ rfl _ _ 30 rfl w.heap.size 2 i0 (.int .i64 0) 1 8 Tryz.underlying30 hi hz0 hz1 hz2 rfl (by decide) (.slice (some ⟨g, 0, none⟩) Z.length cap) Z.length (Z.map (Value.int .i64)) rfl (HOA.out _ _) ⟨wr.heap.size, 0, none⟩ 1 1 [.int .i64 9] rfl rfl HN.out (by intro u hu; simp at hu; subst hu; rfl) (by decide) (by unfold maxLen; omega) (by omega) (by simp; omega) _ rfl ?_)
          intro g4 c4 w4 hown hgrow hat hlt4
          have hown2 : w4.ownsRow w.heap.size 2 1 (.slice (some ⟨g4, 0, none⟩) (Z ++ [(9 : Int)]).length c4) (Z ++ [(9 : Int)]).length ((Z ++ [(9 : Int)]).map (Value.int .i64)) := by
            rw [List.map_append, List.length_append]
            exact hown
          rw [show Z.length + 1 = (Z ++ [(9 : Int)]).length from by simp]
          have HO4 := hideH hown2
          have HB4 := hideH ((HBA.out _ _).grown hgrow (by simp; omega) (by intro t e; simp [Value.ownBlock] at e; omega))
          have hl4 : (Z ++ [(9 : Int)]).length ≤ 288 := by rw [List.length_append, HZl.out]; simp; omega
          have HL4 : Hid ((Z ++ [(9 : Int)]).length = k + 1) := by show _ = _; rw [List.length_append, HZl.out]; rfl
          generalize Z ++ [(9 : Int)] = Z4 at *
          clear hown hown2 hgrow hat HN
          go_wp2_with fail
          exact ⟨⟨k + 1, g4, c4, Z4, by omega, by go_num, rfl, hl4, HL4, HZ2, HO4, HB4⟩, by simp [intOf]; omega⟩
        · by_cases h3 : k < 280
          · skip
            have HN := hideH (gnews1 wr (.int .i64 7) 2)
            have HZ2 : Hid (Z ++ [(7 : Int)] = F288.take (k + 1)) := by show _ = _; rw [HZ.out, take_snoc F288 k (by rw [F288_len]; omega), gF288_at k (by omega), gfx_c h2 h3]
            go_wp2_with (at_builtin; refine wpList_append_lies _ rfl _ _ 30 rfl w.heap.size 2 i0 (.int .i64 0) 1 8 Tryz.underlying30 hi hz0 hz1 hz2 rfl (by decide) (.slice (some ⟨g, 0, none⟩) Z.length cap) Z.length (Z.map (Value.int .i64)) rfl (HOA.out _ _) ⟨wr.heap.size, 0, none⟩ 1 1 [.int .i64 7] rfl rfl HN.out (by intro u hu; simp at hu; subst hu; rfl) (by decide) (by unfold maxLen; omega) (by omega) (by simp; omega) _ rfl ?_)
            intro g4 c4 w4 hown hgrow hat hlt4
            have hown2 : w4.ownsRow w.heap.size 2 1 (.slice (some ⟨g4, 0, none⟩) (Z ++ [(7 : Int)]).length c4) (Z ++ [(7 : Int)]).length ((Z ++ [(7 : Int)]).map (Value.int .i64)) := by
              rw [List.map_append, List.length_append]
              exact hown
            rw [show Z.length + 1 = (Z ++ [(7 : Int)]).length from by simp]
            have HO4 := hideH hown2
            have HB4 := hideH ((HBA.out _ _).grown hgrow (by simp; omega) (by intro t e; simp [Value.ownBlock] at e; omega))
            have hl4 : (Z ++ [(7 : Int)]).length ≤ 288 := by rw [List.length_append, HZl.out]; simp; omega
            have HL4 : Hid ((Z ++ [(7 : Int)]).length = k + 1) := by show _ = _; rw [List.length_append, HZl.out]; rfl
            generalize Z ++ [(7 : Int)] = Z4 at *
            clear hown hown2 hgrow hat HN
            go_wp2_with fail
            exact ⟨⟨k + 1, g4, c4, Z4, by omega, by go_num, rfl, hl4, HL4, HZ2, HO4, HB4⟩, by simp [intOf]; omega⟩
          · skip
            have HN := hideH (gnews1 wr (.int .i64 8) 2)
            have HZ2 : Hid (Z ++ [(8 : Int)] = F288.take (k + 1)) := by show _ = _; rw [HZ.out, take_snoc F288 k (by rw [F288_len]; omega), gF288_at k (by omega), gfx_d h3]
            go_wp2_with (at_builtin; refine wpList_append_lies _ rfl _ _ 30 rfl w.heap.size 2 i0 (.int .i64 0) 1 8 Tryz.underlying30 hi hz0 hz1 hz2 rfl (by decide) (.slice (some ⟨g, 0, none⟩) Z.length cap) Z.length (Z.map (Value.int .i64)) rfl (HOA.out _ _) ⟨wr.heap.size, 0, none⟩ 1 1 [.int .i64 8] rfl rfl HN.out (by intro u hu; simp at hu; subst hu; rfl) (by decide) (by unfold maxLen; omega) (by omega) (by simp; omega) _ rfl ?_)
            intro g4 c4 w4 hown hgrow hat hlt4
            have hown2 : w4.ownsRow w.heap.size 2 1 (.slice (some ⟨g4, 0, none⟩) (Z ++ [(8 : Int)]).length c4) (Z ++ [(8 : Int)]).length ((Z ++ [(8 : Int)]).map (Value.int .i64)) := by
              rw [List.map_append, List.length_append]
              exact hown
            rw [show Z.length + 1 = (Z ++ [(8 : Int)]).length from by simp]
            have HO4 := hideH hown2
            have HB4 := hideH ((HBA.out _ _).grown hgrow (by simp; omega) (by intro t e; simp [Value.ownBlock] at e; omega))
            have hl4 : (Z ++ [(8 : Int)]).length ≤ 288 := by rw [List.length_append, HZl.out]; simp; omega
            have HL4 : Hid ((Z ++ [(8 : Int)]).length = k + 1) := by show _ = _; rw [List.length_append, HZl.out]; rfl
            generalize Z ++ [(8 : Int)] = Z4 at *
            clear hown hown2 hgrow hat HN
            go_wp2_with fail
            exact ⟨⟨k + 1, g4, c4, Z4, by omega, by go_num, rfl, hl4, HL4, HZ2, HO4, HB4⟩, by simp [intOf]; omega⟩
    · have e : k = 288 := by omega
      have hZe : Z = F288 := by rw [HZ.out, e, List.take_of_length_le (by rw [F288_len]; exact Nat.le_refl _)]
      subst hZe
      have HR1 : Hid (Row64 wr (some ⟨g, 0, none⟩) F288) := OwnsI.row (B := w.heap.size) (cap := cap) HO.out
      clear e hk HZl hZ8 HZ
      go_wp2_with fail
      go_ret
      exact ⟨g, cap, rfl, HR1.out, HB.out⟩
set_option maxRecDepth 100000 in
set_option maxHeartbeats 6400000 in
theorem lwPut_any (B : Nat) (ao : Option Addr) (cap X n : Nat) (L : List Nat) (w : World) (ho : OwnsB 5 B w ao cap (ib L)) (hB : B ≤ w.heap.size) (hn : n ≤ 15) (hX : X < 2 ^ 64) (hl : L.length ≤ 100000) :
    Calls Tryz.prog 6 #[.slice ao (ib L).length cap, .agg #[.int .i64 n, .int .u64 X]] w fun e w' => ∃ ao' cap', e = .returned (.slice ao' (ib (L ++ bitsOf X n)).length cap') ∧ OwnsB 5 B w' ao' cap' (ib (L ++ bitsOf X n)) ∧ Below B w w' := by
  obtain ⟨i0, hi, hz0, hz1, hz2⟩ := info_parts Tryz.info_u8
  have b0 : Below w.heap.size w (w.alloc (.cells #[.int .i64 n, .int .u64 X] 27)) := (Below.refl _ _).alloc (Nat.le_refl _) _
  have HO := hideH (ho.below b0)
  have HB0 := hideH (b0.mono hB)
  have HC0 : Hid ((w.alloc (.cells #[.int .i64 n, .int .u64 X] 27)).cell? ⟨w.heap.size, 0, none⟩ = some (.int .i64 n) ∧ (w.alloc (.cells #[.int .i64 n, .int .u64 X] 27)).cell? ⟨w.heap.size, 1, none⟩ = some (.int .u64 X)) := by
    refine ⟨?_, ?_⟩ <;> simp [go_sem]
  have HNE : Hid (blk ao ≠ some w.heap.size) := fun e => by
    cases ao with
    | none => cases e
    | some ad =>
      have := (ho.mine.lies ad rfl).2.1
      simp [blk] at e
      omega
  have HZ0 : Hid (w.heap.size < (w.alloc (.cells #[.int .i64 n, .int .u64 X] 27)).heap.size) := by show _ < _; simp
  clear ho b0
  go_enter Tryz.func6, Tryz.ntmps6
  go_upto_region 2 with fail
  generalize w.alloc (.cells #[.int .i64 n, .int .u64 X] 27) = w0 at *
  go_loopw [0, 5] (fun v i wr => ∃ (k : Nat) (ao' : Option Addr) (cap' : Nat) (Z : List Int), k ≤ n ∧ i = .int .i64 k ∧ v = .slice ao' Z.length cap' ∧ Z.length ≤ 100100 ∧ Hid (Z = ib (L ++ bitsOf X k)) ∧ Hid (OwnsB 5 B wr ao' cap' Z) ∧ Hid (Below B w wr) ∧ Hid (wr.cell? ⟨w.heap.size, 0, none⟩ = some (.int .i64 n) ∧ wr.cell? ⟨w.heap.size, 1, none⟩ = some (.int .u64 X)) ∧ Hid (blk ao' ≠ some w.heap.size) ∧ Hid (w.heap.size < wr.heap.size)) (fun _ i _ => n - (intOf i).toNat)
  case atStart => exact ⟨0, ao, cap, ib L, Nat.zero_le _, rfl, rfl, by rw [ib_len]; omega, by show _ = _; rw [bitsOf_zero, List.append_nil], HO, HB0, HC0, HNE, HZ0⟩
  case round =>
    clear HO HB0 HC0 HNE HZ0
    obtain ⟨k, ao', cap', Z, hk, rfl, rfl, hZl, HZ, HO, HB, HC, HNE, HZZ⟩ := hrel
    obtain ⟨c0, c1⟩ := HC.out
    by_cases hlt : k < n
    · obtain ⟨y, hy⟩ : ∃ y, X / 2 ^ k = y := ⟨_, rfl⟩
      obtain ⟨z, hzz⟩ : ∃ z, y % 256 = z := ⟨_, rfl⟩
      obtain ⟨b, hb⟩ : ∃ b, z % 2 = b := ⟨_, rfl⟩
      have hyi : (X : Int) / 2 ^ k = (y : Int) := by
        rw [show ((2 : Int) ^ k) = ((2 ^ k : Nat) : Int) from (Int.natCast_pow 2 k).symm, ← hy]
        rfl
      have hy64 : y < 2 ^ 64 := by rw [← hy]; exact Nat.lt_of_le_of_lt (Nat.div_le_self _ _) hX
      have hkw : IntKind.u64.wrap (k : Int) = (k : Int) := by rw [IntKind.wrap_u64]; omega
      have hmk : min k 64 = k := by omega
      have hyw : IntKind.u64.wrap (y : Int) = (y : Int) := by rw [IntKind.wrap_u64]; omega
      have hzw : IntKind.u8.wrap (y : Int) = (z : Int) := by rw [IntKind.wrap_u8]; omega
      have hbt : (z : Int).tmod 2 = (b : Int) := by rw [Int.tmod_eq_emod_of_nonneg (by omega)]; omega
      have hbw : IntKind.u8.wrap (b : Int) = (b : Int) := by rw [IntKind.wrap_u8]; omega
      have hbX : X / 2 ^ k % 2 = b := by rw [hy, ← hb, ← hzz]; omega
      have HZ2 : Hid (Z ++ [(b : Int)] = ib (L ++ bitsOf X (k + 1))) := by
        show _ = _
        rw [HZ.out, bitsOf_succ, hbX, ← List.append_assoc, ib_app (L ++ bitsOf X k)]
        rfl
      have HOA := hideH (fun A t => HO.out.below ((Below.refl _ _).alloc (Nat.le_refl _) (.cells A t)))
      have hBw : B ≤ wr.heap.size := Nat.le_trans hB HB.out.size
      have HBA := hideH (fun A t => HB.out.trans (((Below.refl _ _).alloc (Nat.le_refl _) (.cells A t)).mono hBw))
      have HZL : Hid (Z.length = L.length + k) := by show _ = _; rw [HZ.out, ib_len, List.length_append, bitsOf_len]
      have hzz9 := HZZ.out
      clear hb hy hzz hbX
      go_wp2_with (at_builtin; refine wpList_append_row _ rfl _ _ 22 rfl B 5 i0 (.int .u8 0) 1 Tryz.underlying22 hi hz0 hz1 hz2 rfl (.slice ao' Z.length cap') Z.length (Z.map (Value.int .u8)) rfl (HOA.out _ _) (some ⟨wr.heap.size, 0, none⟩) 1 [(b : Int)] rfl (row_oneB wr b 5) (fun e => by cases e) (by unfold maxLen; simp; omega) (by simp; omega) (by simp; omega) ?_)
      intro v' w2 hown hgrow hat
      have hown2 : w2.ownsRow B 5 1 v' (Z.length + 1) ((Z ++ [(b : Int)]).map (Value.int .u8)) := by
        rw [List.map_append]
        exact hown
      obtain ⟨ao2, cap2, rfl, ho2⟩ := OwnsB.of hown2
      rw [blk_own] at hgrow
      rw [blk_own, blk_own] at hat
      have hblk := hgrow.block w.heap.size (by simp; omega) (fun e => HNE.out e.symm)
      have hblk2 : w2.heap[w.heap.size]? = wr.heap[w.heap.size]? := hblk.trans (((Below.refl wr.heap.size wr).alloc (Nat.le_refl _) (.cells #[.int .u8 (b : Int)] 5)).block w.heap.size hzz9)
      have HC2 : Hid (w2.cell? ⟨w.heap.size, 0, none⟩ = some (.int .i64 n) ∧ w2.cell? ⟨w.heap.size, 1, none⟩ = some (.int .u64 X)) := ⟨(World.cell?_of_block (w := wr) (a := ⟨w.heap.size, 0, none⟩) hblk2).trans c0, (World.cell?_of_block (w := wr) (a := ⟨w.heap.size, 1, none⟩) hblk2).trans c1⟩
      have HNE2 : Hid (blk ao2 ≠ some w.heap.size) := fun e => by
        rcases hat with h | h
        · exact HNE.out (h ▸ e)
        · rw [h] at e
          simp at e
          omega
      have HZZ2 : Hid (w.heap.size < w2.heap.size) := by show _ < _; have := hgrow.size; simp at this; omega
      have HB2 := hideH ((HBA.out _ _).grown hgrow (by simp; omega) (fun q e => HO.out.base q e))
      have HO2 := hideH ho2
      have hl2 : (Z ++ [(b : Int)]).length ≤ 100100 := by rw [List.length_append, HZL.out]; simp; omega
      generalize Z ++ [(b : Int)] = Z2 at *
      clear hown hown2 hgrow hat ho2 HOA HBA hblk hblk2 c0 c1
      go_wp2_with fail
      exact ⟨⟨k + 1, ao2, cap2, Z2, by omega, by go_num, rfl, hl2, HZ2, HO2, HB2, HC2, HNE2, HZZ2⟩, by simp [intOf]; omega⟩
    · have e : k = n := by omega
      subst e
      have hZe := HZ.out
      subst hZe
      go_wp2_with fail
      go_ret
      exact ⟨ao', cap', rfl, HO.out, HB.out⟩
end Go.Proofs.YtboniidgoepdcaaGreatDoor
namespace Go.Proofs.YtboniidgoepdcaaGreatDoor
open Go.RowKit
set_option linter.unusedVariables false

/-- A row of bytes with zeros behind, M in all. -/
def pad (M : Nat) (Z : List Int) : List Int := Z ++ List.replicate (M - Z.length) 0
theorem pad_len (M : Nat) (Z : List Int) (h : Z.length ≤ M) : (pad M Z).length = M := by simp [pad]; omega
theorem pad_full (M : Nat) (Z : List Int) (h : Z.length = M) : pad M Z = Z := by simp [pad, h]
theorem pad_nil (M : Nat) : pad M [] = List.replicate M 0 := by simp [pad]
theorem pad_next (L : List Nat) (b M : Nat) (hL : Bin L) (hb : b ≤ 1) (hM : L.length / 8 < M) : ∃ x : Nat, (pad M (pk L)).getD (L.length / 8) 0 = (x : Int) ∧ x < 2 ^ (L.length % 8) ∧ (pad M (pk L)).set (L.length / 8) ((x + b * 2 ^ (L.length % 8) : Nat) : Int) = pad M (pk (L ++ [b])) := by
  have hlen := pk_len L
  by_cases h8 : L.length % 8 = 0
  · have hl : (pk L).length = L.length / 8 := by omega
    obtain ⟨m, hm⟩ : ∃ m, M - (pk L).length = m + 1 := ⟨M - (pk L).length - 1, by omega⟩
    refine ⟨0, ?_, Nat.two_pow_pos _, ?_⟩
    · unfold pad
      rw [hm, List.getD_eq_getElem?_getD, List.getElem?_append_right (by omega), hl, Nat.sub_self]
      rfl
    · rw [pk_snoc, pkOne, if_pos h8, h8]
      unfold pad
      rw [hm, List.set_append_right _ _ (by omega), hl, Nat.sub_self, List.replicate_succ, List.set_cons_zero, List.length_append]
      rw [show M - ((pk L).length + [(b : Int)].length) = m by rw [List.length_singleton]; omega, List.append_assoc]
      simp
  · obtain ⟨x, hx, hx2⟩ := pk_top L hL h8
    have hl : L.length / 8 < (pk L).length := by omega
    refine ⟨x, ?_, hx2, ?_⟩
    · unfold pad
      rw [List.getD_eq_getElem?_getD, List.getElem?_append_left hl, ← List.getD_eq_getElem?_getD]
      exact hx
    · rw [pk_snoc, pkOne, if_neg h8, hx]
      unfold pad
      rw [List.set_append_left _ _ hl, List.length_set]
      rfl
theorem pk_octets (L : List Nat) (hL : Bin L) : Octets (pk L) := by
  induction L using snoc_ind with
  | h0 => intro z hz; rw [pk_nil] at hz; cases hz
  | h1 L b ih =>
    have hb : b ≤ 1 := hL b (by simp)
    have ih := ih hL.left
    rw [pk_snoc]
    unfold pkOne
    split
    · intro z hz
      rcases List.mem_append.1 hz with h | h
      · exact ih z h
      · have e : z = (b : Int) := by simpa using h
        subst e
        omega
    · rename_i h8
      obtain ⟨x, hx, hx2⟩ := pk_top L hL.left h8
      intro z hz
      rcases List.mem_or_eq_of_mem_set hz with h | h
      · exact ih z h
      · rw [h, hx]
        have h1 : 2 ^ (L.length % 8) ≤ 2 ^ 7 := Nat.pow_le_pow_right (by decide) (by omega)
        have h2 : b * 2 ^ (L.length % 8) ≤ 1 * 2 ^ (L.length % 8) := Nat.mul_le_mul_right _ hb
        have h3 : (2 : Nat) ^ 7 = 128 := by decide
        omega
theorem rowZ5 (w : World) (t : TypeId) : Row (w.alloc (.cells #[.int .u8 0, .int .u8 0, .int .u8 0, .int .u8 0, .int .u8 0] t)) (some ⟨w.heap.size, 0, none⟩) [0, 0, 0, 0, 0] := by
  refine Row.of fun i hi => ?_
  have h : i = 0 ∨ i = 1 ∨ i = 2 ∨ i = 3 ∨ i = 4 := by simp at hi; omega
  rcases h with rfl | rfl | rfl | rfl | rfl <;> simp [go_sem]
theorem own_three (w : World) (B : Nat) (hB : B ≤ w.heap.size) : OwnsB 5 B (w.alloc (.cells #[.int .u8 1, .int .u8 1, .int .u8 0] 5)) (some ⟨w.heap.size, 0, none⟩) 3 (ib [1, 1, 0]) :=
  World.ownsRow_lit w #[.int .u8 1, .int .u8 1, .int .u8 0] 3 hB (by unfold maxLen; omega) rfl
end Go.Proofs.YtboniidgoepdcaaGreatDoor
