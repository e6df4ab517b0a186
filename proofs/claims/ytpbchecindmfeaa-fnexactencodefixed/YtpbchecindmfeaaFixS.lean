import Derived.Test.YtpbchecindmfeaaFixY
import Derived.Deep.AppendLies
namespace Go.Proofs.Ytpbchecindmfeaa
open Go.RowKit
attribute [local go_sem ↓] Go.wp_at_zero Go.wp_at_succ
set_option linter.unusedVariables false

def fx (s : Nat) : Int := if 144 ≤ s ∧ s < 256 then 9 else if 256 ≤ s ∧ s < 280 then 7 else 8
theorem fx_a {k : Nat} (h : k < 144) : fx k = 8 := by rw [fx, if_neg (by omega), if_neg (by omega)]
theorem fx_b {k : Nat} (h : ¬ k < 144) (h2 : k < 256) : fx k = 9 := by rw [fx, if_pos (by omega)]
theorem fx_c {k : Nat} (h : ¬ k < 256) (h2 : k < 280) : fx k = 7 := by rw [fx, if_neg (by omega), if_pos (by omega)]
theorem fx_d {k : Nat} (h : ¬ k < 280) : fx k = 8 := by rw [fx, if_neg (by omega), if_neg (by omega)]
theorem F288_at (s : Nat) (h : s < 288) : F288.getD s 0 = fx s := by
  have h1 : ∀ s : Fin 288, F288.getD s.val 0 = fx s.val := by decide +kernel
  exact h1 ⟨s, h⟩
theorem news1 (w : World) (x : Value) (t : TypeId) : ∀ j u, ([x] : List Value)[j]? = some u → (w.alloc (.cells #[x] t)).cell? ((⟨w.heap.size, 0, none⟩ : Addr).add j) = some u := by
  intro j u h
  have hj : j = 0 := by
    rcases Nat.eq_zero_or_pos j with h' | h'
    · exact h'
    · rw [List.getElem?_eq_none (by simp; omega)] at h; cases h
  subst hj
  simp at h
  subst h
  simp [go_sem]
set_option maxRecDepth 100000 in
set_option maxHeartbeats 6400000 in
theorem l5Fixed_any (w : World) : Calls Try.prog 14 #[] w fun e w' => ∃ g cap v, e = .returned (.tuple #[.slice (some ⟨g, 0, none⟩) F288.length cap, v]) ∧ w'.ownsRow w.heap.size 2 1 (.slice (some ⟨g, 0, none⟩) F288.length cap) F288.length (F288.map (Value.int .i64)) ∧ Below w.heap.size w w' := by
  obtain ⟨i0, hi, hz0, hz1, hz2⟩ := info_parts Try.info_i64
  obtain ⟨w1, hw1⟩ : ∃ w1, (w.alloc (.cells #[] 2)).alloc (.cells #[] 2) = w1 := ⟨_, rfl⟩
  have HO1 : Hid (w1.ownsRow w.heap.size 2 1 (.slice (some ⟨w.heap.size, 0, none⟩) 0 0) 0 []) := by
    rw [← hw1]
    exact World.ownsRow.kept (World.ownsRow_lit w #[] 0 (Nat.le_refl _) (by unfold maxLen; omega) rfl) (World.grownBy_alloc _ _ none) (.inr (by simp [Value.ownBlock]))
  have HH1 : Hid (w1.heap[w.heap.size + 1]? = some (.cells #[] 2 (0, 0))) := by
    show _ = _
    rw [← hw1]
    simp only [World.alloc, Array.getElem?_push, Array.size_push]
    simp
  have hs1 : w.heap.size + 1 < w1.heap.size := by rw [← hw1]; simp
  have HB1 : Hid (Below w.heap.size w w1) := by rw [← hw1]; exact ((Below.refl _ _).alloc (Nat.le_refl _) _).alloc (by simp) _
  go_enter Try.func14, Try.ntmps14
  go_wp2_with fail
  clear hw1
  go_loopw [2, 4, 5] (fun v i _ wr => ∃ (k g cap : Nat) (Z : List Int), k ≤ 288 ∧ i = .int .i64 k ∧ v = .slice (some ⟨g, 0, none⟩) Z.length cap ∧ Z.length ≤ 288 ∧ Hid (Z.length = k) ∧ Hid (Z = F288.take k) ∧ Hid (wr.ownsRow w.heap.size 2 1 (.slice (some ⟨g, 0, none⟩) Z.length cap) Z.length (Z.map (Value.int .i64))) ∧ Hid (g ≠ w.heap.size + 1) ∧ Hid (wr.heap[w.heap.size + 1]? = some (.cells #[] 2 (0, 0))) ∧ w.heap.size + 1 < wr.heap.size ∧ Hid (Below w.heap.size w wr)) (fun _ i _ _ => 288 - (intOf i).toNat)
  case atStart => exact ⟨0, _, 0, [], Nat.zero_le _, rfl, rfl, by simp, rfl, rfl, HO1, (by show _ ≠ _; omega), HH1, hs1, HB1⟩
  case round =>
    clear HO1 HH1 hs1 HB1
    obtain ⟨k, g, cap, Z, hk, rfl, rfl, hZ8, HZl, HZ, HO, HG, HH, hw1, HB⟩ := hrel
    have hgne : g ≠ w.heap.size + 1 := HG.out
    by_cases hlt : k < 288
    · have hgB : w.heap.size ≤ g := (HO.out.lt g rfl).1
      have hgw : g < wr.heap.size := (HO.out.lt g rfl).2
      have hBw := HB.out.size
      have HOA := hideH (fun A t => World.ownsRow.kept HO.out (World.grownBy_alloc wr (.cells A t) none) (.inr (by simp [Value.ownBlock])))
      have HBA := hideH (fun A t => HB.out.trans (((Below.refl _ _).alloc (Nat.le_refl _) (.cells A t)).mono hBw))
      by_cases h1 : k < 144
      · skip
        have HN := hideH (news1 wr (.int .i64 8) 2)
        have HZ2 : Hid (Z ++ [(8 : Int)] = F288.take (k + 1)) := by show _ = _; rw [HZ.out, take_snoc F288 k (by rw [F288_len]; omega), F288_at k (by omega), fx_a h1]
        go_wp2_with (at_builtin; refine wpList_append_lies _ rfl _ _ 30 rfl w.heap.size 2 i0 (.int .i64 0) 1 8 Try.underlying30 hi hz0 hz1 hz2 rfl (by decide) (.slice (some ⟨g, 0, none⟩) Z.length cap) Z.length (Z.map (Value.int .i64)) rfl (HOA.out _ _) ⟨wr.heap.size, 0, none⟩ 1 1 [.int .i64 8] rfl rfl HN.out (by intro u hu; simp at hu; subst hu; rfl) (by decide) (by unfold maxLen; omega) (by omega) (by simp; omega) _ rfl ?_)
        intro g4 c4 w4 hown hgrow hat hlt4
        have hown2 : w4.ownsRow w.heap.size 2 1 (.slice (some ⟨g4, 0, none⟩) (Z ++ [(8 : Int)]).length c4) (Z ++ [(8 : Int)]).length ((Z ++ [(8 : Int)]).map (Value.int .i64)) := by
          rw [List.map_append, List.length_append]
          exact hown
        rw [show Z.length + 1 = (Z ++ [(8 : Int)]).length from by simp]
        have HO4 := hideH hown2
        have HB4 := hideH ((HBA.out _ _).grown hgrow (by simp; omega) (by intro t e; simp [Value.ownBlock] at e; omega))
        have HG4 : Hid (g4 ≠ w.heap.size + 1) := by
          intro e
          rcases hat with h | h
          · exact hgne ((Option.some.inj h).trans e)
          · first | omega | (simp at h; omega)
        have HH4 : Hid (w4.heap[w.heap.size + 1]? = some (.cells #[] 2 (0, 0))) := by
          show _ = _
          rw [hgrow.block (w.heap.size + 1) (by simp; omega) (fun e => hgne (Option.some.inj e).symm)]
          exact (((Below.refl wr.heap.size wr).alloc (Nat.le_refl _) (.cells #[.int .i64 8] 2)).block (w.heap.size + 1) hw1).trans HH.out
        have hs4 : w.heap.size + 1 < w4.heap.size := by have := hgrow.size; simp at this; omega
        have hl4 : (Z ++ [(8 : Int)]).length ≤ 288 := by rw [List.length_append, HZl.out]; simp; omega
        have HL4 : Hid ((Z ++ [(8 : Int)]).length = k + 1) := by show _ = _; rw [List.length_append, HZl.out]; rfl
        generalize Z ++ [(8 : Int)] = Z4 at *
        clear hown hown2 hgrow hat HN
        go_wp2_with fail
        exact ⟨⟨k + 1, g4, c4, Z4, by omega, by go_num, rfl, hl4, HL4, HZ2, HO4, HG4, HH4, hs4, HB4⟩, by simp [intOf]; omega⟩
      · by_cases h2 : k < 256
        · skip
          have HN := hideH (news1 wr (.int .i64 9) 2)
          have HZ2 : Hid (Z ++ [(9 : Int)] = F288.take (k + 1)) := by show _ = _; rw [HZ.out, take_snoc F288 k (by rw [F288_len]; omega), F288_at k (by omega), fx_b h1 h2]
          go_wp2_with (at_builtin; refine wpList_append_lies _ rfl _ _ 30 rfl w.heap.size 2 i0 (.int .i64 0) 1 8 Try.underlying30 hi hz0 hz1 hz2 rfl (by decide) (.slice (some ⟨g, 0, none⟩) Z.length cap) Z.length (Z.map (Value.int .i64)) rfl (HOA.out _ _) ⟨wr.heap.size, 0, none⟩ 1 1 [.int .i64 9] rfl rfl HN.out (by intro u hu; simp at hu; subst hu; rfl) (by decide) (by unfold maxLen; omega) (by omega) (by simp; omega) _ rfl ?_)
          intro g4 c4 w4 hown hgrow hat hlt4
          have hown2 : w4.ownsRow w.heap.size 2 1 (.slice (some ⟨g4, 0, none⟩) (Z ++ [(9 : Int)]).length c4) (Z ++ [(9 : Int)]).length ((Z ++ [(9 : Int)]).map (Value.int .i64)) := by
            rw [List.map_append, List.length_append]
            exact hown
          rw [show Z.length + 1 = (Z ++ [(9 : Int)]).length from by simp]
          have HO4 := hideH hown2
          have HB4 := hideH ((HBA.out _ _).grown hgrow (by simp; omega) (by intro t e; simp [Value.ownBlock] at e; omega))
          have HG4 : Hid (g4 ≠ w.heap.size + 1) := by
            intro e
            rcases hat with h | h
            · exact hgne ((Option.some.inj h).trans e)
            · first | omega | (simp at h; omega)
          have HH4 : Hid (w4.heap[w.heap.size + 1]? = some (.cells #[] 2 (0, 0))) := by
            show _ = _
            rw [hgrow.block (w.heap.size + 1) (by simp; omega) (fun e => hgne (Option.some.inj e).symm)]
            exact (((Below.refl wr.heap.size wr).alloc (Nat.le_refl _) (.cells #[.int .i64 9] 2)).block (w.heap.size + 1) hw1).trans HH.out
          have hs4 : w.heap.size + 1 < w4.heap.size := by have := hgrow.size; simp at this; omega
          have hl4 : (Z ++ [(9 : Int)]).length ≤ 288 := by rw [List.length_append, HZl.out]; simp; omega
          have HL4 : Hid ((Z ++ [(9 : Int)]).length = k + 1) := by show _ = _; rw [List.length_append, HZl.out]; rfl
          generalize Z ++ [(9 : Int)] = Z4 at *
          clear hown hown2 hgrow hat HN
          go_wp2_with fail
          exact ⟨⟨k + 1, g4, c4, Z4, by omega, by go_num, rfl, hl4, HL4, HZ2, HO4, HG4, HH4, hs4, HB4⟩, by simp [intOf]; omega⟩
        · by_cases h3 : k < 280
          · skip
            have HN := hideH (news1 wr (.int .i64 7) 2)
            have HZ2 : Hid (Z ++ [(7 : Int)] = F288.take (k + 1)) := by show _ = _; rw [HZ.out, take_snoc F288 k (by rw [F288_len]; omega), F288_at k (by omega), fx_c h2 h3]
            go_wp2_with (at_builtin; refine wpList_append_lies _ rfl _ _ 30 rfl w.heap.size 2 i0 (.int .i64 0) 1 8 Try.underlying30 hi hz0 hz1 hz2 rfl (by decide) (.slice (some ⟨g, 0, none⟩) Z.length cap) Z.length (Z.map (Value.int .i64)) rfl (HOA.out _ _) ⟨wr.heap.size, 0, none⟩ 1 1 [.int .i64 7] rfl rfl HN.out (by intro u hu; simp at hu; subst hu; rfl) (by decide) (by unfold maxLen; omega) (by omega) (by simp; omega) _ rfl ?_)
            intro g4 c4 w4 hown hgrow hat hlt4
            have hown2 : w4.ownsRow w.heap.size 2 1 (.slice (some ⟨g4, 0, none⟩) (Z ++ [(7 : Int)]).length c4) (Z ++ [(7 : Int)]).length ((Z ++ [(7 : Int)]).map (Value.int .i64)) := by
              rw [List.map_append, List.length_append]
              exact hown
            rw [show Z.length + 1 = (Z ++ [(7 : Int)]).length from by simp]
            have HO4 := hideH hown2
            have HB4 := hideH ((HBA.out _ _).grown hgrow (by simp; omega) (by intro t e; simp [Value.ownBlock] at e; omega))
            have HG4 : Hid (g4 ≠ w.heap.size + 1) := by
              intro e
              rcases hat with h | h
              · exact hgne ((Option.some.inj h).trans e)
              · first | omega | (simp at h; omega)
            have HH4 : Hid (w4.heap[w.heap.size + 1]? = some (.cells #[] 2 (0, 0))) := by
              show _ = _
              rw [hgrow.block (w.heap.size + 1) (by simp; omega) (fun e => hgne (Option.some.inj e).symm)]
              exact (((Below.refl wr.heap.size wr).alloc (Nat.le_refl _) (.cells #[.int .i64 7] 2)).block (w.heap.size + 1) hw1).trans HH.out
            have hs4 : w.heap.size + 1 < w4.heap.size := by have := hgrow.size; simp at this; omega
            have hl4 : (Z ++ [(7 : Int)]).length ≤ 288 := by rw [List.length_append, HZl.out]; simp; omega
            have HL4 : Hid ((Z ++ [(7 : Int)]).length = k + 1) := by show _ = _; rw [List.length_append, HZl.out]; rfl
            generalize Z ++ [(7 : Int)] = Z4 at *
            clear hown hown2 hgrow hat HN
            go_wp2_with fail
            exact ⟨⟨k + 1, g4, c4, Z4, by omega, by go_num, rfl, hl4, HL4, HZ2, HO4, HG4, HH4, hs4, HB4⟩, by simp [intOf]; omega⟩
          · skip
            have HN := hideH (news1 wr (.int .i64 8) 2)
            have HZ2 : Hid (Z ++ [(8 : Int)] = F288.take (k + 1)) := by show _ = _; rw [HZ.out, take_snoc F288 k (by rw [F288_len]; omega), F288_at k (by omega), fx_d h3]
            go_wp2_with (at_builtin; refine wpList_append_lies _ rfl _ _ 30 rfl w.heap.size 2 i0 (.int .i64 0) 1 8 Try.underlying30 hi hz0 hz1 hz2 rfl (by decide) (.slice (some ⟨g, 0, none⟩) Z.length cap) Z.length (Z.map (Value.int .i64)) rfl (HOA.out _ _) ⟨wr.heap.size, 0, none⟩ 1 1 [.int .i64 8] rfl rfl HN.out (by intro u hu; simp at hu; subst hu; rfl) (by decide) (by unfold maxLen; omega) (by omega) (by simp; omega) _ rfl ?_)
            intro g4 c4 w4 hown hgrow hat hlt4
            have hown2 : w4.ownsRow w.heap.size 2 1 (.slice (some ⟨g4, 0, none⟩) (Z ++ [(8 : Int)]).length c4) (Z ++ [(8 : Int)]).length ((Z ++ [(8 : Int)]).map (Value.int .i64)) := by
              rw [List.map_append, List.length_append]
              exact hown
            rw [show Z.length + 1 = (Z ++ [(8 : Int)]).length from by simp]
            have HO4 := hideH hown2
            have HB4 := hideH ((HBA.out _ _).grown hgrow (by simp; omega) (by intro t e; simp [Value.ownBlock] at e; omega))
            have HG4 : Hid (g4 ≠ w.heap.size + 1) := by
              intro e
              rcases hat with h | h
              · exact hgne ((Option.some.inj h).trans e)
              · first | omega | (simp at h; omega)
            have HH4 : Hid (w4.heap[w.heap.size + 1]? = some (.cells #[] 2 (0, 0))) := by
              show _ = _
              rw [hgrow.block (w.heap.size + 1) (by simp; omega) (fun e => hgne (Option.some.inj e).symm)]
              exact (((Below.refl wr.heap.size wr).alloc (Nat.le_refl _) (.cells #[.int .i64 8] 2)).block (w.heap.size + 1) hw1).trans HH.out
            have hs4 : w.heap.size + 1 < w4.heap.size := by have := hgrow.size; simp at this; omega
            have hl4 : (Z ++ [(8 : Int)]).length ≤ 288 := by rw [List.length_append, HZl.out]; simp; omega
            have HL4 : Hid ((Z ++ [(8 : Int)]).length = k + 1) := by show _ = _; rw [List.length_append, HZl.out]; rfl
            generalize Z ++ [(8 : Int)] = Z4 at *
            clear hown hown2 hgrow hat HN
            go_wp2_with fail
            exact ⟨⟨k + 1, g4, c4, Z4, by omega, by go_num, rfl, hl4, HL4, HZ2, HO4, HG4, HH4, hs4, HB4⟩, by simp [intOf]; omega⟩
    · have e : k = 288 := by omega
      have hZe : Z = F288 := by rw [HZ.out, e, List.take_of_length_le (by rw [F288_len]; exact Nat.le_refl _)]
      subst hZe
      have hgB : w.heap.size ≤ g := (HO.out.lt g rfl).1
      have hgw : g < wr.heap.size := (HO.out.lt g rfl).2
      have HD0 : Hid (wr.ownsRow (w.heap.size + 1) 2 1 (.slice (some ⟨w.heap.size + 1, 0, none⟩) 0 0) 0 []) := ⟨rfl, .inr ⟨w.heap.size + 1, 0, #[], rfl, Nat.le_refl _, HH.out, Nat.le_refl _, by unfold maxLen; omega, rfl, rfl⟩⟩
      clear e hk
      go_wp2_with fail
      go_loopw [3, 6] (fun v i wx => ∃ (j gd cd : Nat) (D : List Value), j ≤ 32 ∧ i = .int .i64 j ∧ v = .slice (some ⟨gd, 0, none⟩) j cd ∧ Hid (wx.ownsRow (w.heap.size + 1) 2 1 (.slice (some ⟨gd, 0, none⟩) j cd) j D) ∧ gd ≠ g ∧ Hid (wx.ownsRow w.heap.size 2 1 (.slice (some ⟨g, 0, none⟩) F288.length cap) F288.length (F288.map (Value.int .i64))) ∧ Hid (Below w.heap.size w wx)) (fun _ i _ => 32 - (intOf i).toNat)
      case atStart => exact ⟨0, _, 0, [], Nat.zero_le _, rfl, rfl, HD0, (fun e => HG.out e.symm), HO, HB⟩
      case round =>
        clear HD0 HO HB hgw HG HH hw1
        obtain ⟨j, gd, cd, D, hj, rfl, rfl, HD, hne, HO, HB⟩ := hrel
        by_cases hlt : j < 32
        · have hgd : w.heap.size + 1 ≤ gd := (HD.out.lt gd rfl).1
          have hgw : g < wr.heap.size := (HO.out.lt g rfl).2
          have hBw := HB.out.size
          have hgdw : gd < wr.heap.size := (HD.out.lt gd rfl).2
          have HDA := hideH (fun A t => World.ownsRow.kept HD.out (World.grownBy_alloc wr (.cells A t) none) (.inr (by simp [Value.ownBlock])))
          have HOA := hideH (fun A t => World.ownsRow.kept HO.out (World.grownBy_alloc wr (.cells A t) none) (.inr (by simp [Value.ownBlock])))
          have HBA := hideH (fun A t => HB.out.trans (((Below.refl _ _).alloc (Nat.le_refl _) (.cells A t)).mono hBw))
          have HN := hideH (news1 wr (.int .i64 5) 2)
          go_wp2_with (at_builtin; refine wpList_append_lies _ rfl _ _ 30 rfl (w.heap.size + 1) 2 i0 (.int .i64 0) 1 8 Try.underlying30 hi hz0 hz1 hz2 rfl (by decide) (.slice (some ⟨gd, 0, none⟩) j cd) j D rfl (HDA.out _ _) ⟨wr.heap.size, 0, none⟩ 1 1 [.int .i64 5] rfl rfl HN.out (by intro u hu; simp at hu; subst hu; rfl) (by decide) (by unfold maxLen; omega) (by omega) (by simp; omega) _ rfl ?_)
          intro g4 c4 w4 hown hgrow hat hlt4
          have HD4 := hideH hown
          have HO4 := hideH (World.ownsRow.kept (HOA.out _ _) hgrow (.inr (fun e => hne (Option.some.inj e).symm)))
          have HB4 := hideH ((HBA.out _ _).grown hgrow (by simp; omega) (by intro t e; simp [Value.ownBlock] at e; omega))
          have hne4 : g4 ≠ g := by
            intro e
            rcases hat with h | h
            · exact hne ((Option.some.inj h).trans e)
            · first | omega | (simp at h; omega)
          clear hown hgrow hat HN HDA HOA HBA HD HO HB
          go_wp2_with fail
          exact ⟨⟨j + 1, g4, c4, _, by omega, by go_num, rfl, HD4, hne4, HO4, HB4⟩, by simp [intOf]; omega⟩
        · go_wp2_with fail
          exact bodyPost_ret (v := .tuple #[.slice (some ⟨g, 0, none⟩) F288.length cap, .slice (some ⟨gd, 0, none⟩) j cd]) (by simp [results, Try.results14, go_sem]) rfl ⟨g, cap, _, rfl, HO.out, HB.out⟩
end Go.Proofs.Ytpbchecindmfeaa
