import Derived.Test.YtmfacacpoajpgabDrawL
namespace Go.Proofs.Ytmfacacpoajpgab
open Go.RowKit
attribute [local go_sem ↓] Go.wp_at_zero Go.wp_at_succ
set_option linter.unusedVariables false

theorem ownI2 (w : World) (a b : Int) : OwnsI w.heap.size (w.alloc (.cells #[.int .i64 a, .int .i64 b] 2)) (some ⟨w.heap.size, 0, none⟩) 2 [a, b] :=
  World.ownsRow_lit w #[.int .i64 a, .int .i64 b] 2 (Nat.le_refl _) (by unfold maxLen; omega) rfl
set_option maxRecDepth 100000 in
set_option maxHeartbeats 6400000 in
theorem l3Leaves_any (p : Nat) (co : Option Addr) (cc : Nat) (cs : List Int) (n : Nat) (m : Int) (w : World) (hc : Cur w p co cc cs) (hco : ∀ ad, co = some ad → 0 < cs.length → ad.block < w.heap.size) (hn : n ≤ 1000) :
    Calls Try.prog 74 #[.pointer (some ⟨p, 0, none⟩), .int .i64 n, .int .i64 m] w fun e w' => (∃ ao cap zs, e = .returned (.slice ao (List.length zs) cap) ∧ OwnsI w.heap.size w' ao cap zs ∧ zs.length ≤ 1001) ∧ Drew w w' p co cc cs := by
  obtain ⟨i0, hi, hz0, hz1, hz2⟩ := info_parts Try.info_i64d
  have hpw := hc.lt
  have HO := hideH (ownI2 w 1 1)
  have HD : Hid (Drew w (w.alloc (.cells #[.int .i64 1, .int .i64 1] 2)) p co cc cs) := Drew.more ⟨hc, World.grownBy.refl _ _⟩ hpw hco (World.grownBy_alloc w _ none) (fun g e => by cases e)
  clear hc
  have HCO := hideH hco
  clear hco
  go_enter Try.func74, Try.ntmps74
  go_wp2_with fail
  go_loopw [7] (fun v wr => ∃ (ao : Option Addr) (cap : Nat) (zs : List Int), v = .slice ao zs.length cap ∧ 2 ≤ zs.length ∧ zs.length ≤ 1001 ∧ Hid (OwnsI w.heap.size wr ao cap zs) ∧ Hid (Drew w wr p co cc cs)) (fun v _ => match v with | .slice _ l _ => n - l | _ => 0)
  case atStart => exact ⟨_, 2, [1, 1], rfl, Nat.le_refl _, by decide, HO, HD⟩
  case round =>
    clear HO HD
    obtain ⟨ao, cap, zs, rfl, hz2', hzm, HO, HD⟩ := hrel
    by_cases h1 : zs.length < n
    · have HC := hideH (l1Below_any p co cc cs zs.length wr HD.out.cur (by omega) (by omega))
      go_wp2_with fail
      refine Calls.mono HC.out ?_
      rintro e w1 ⟨⟨x, rfl, x0, x1⟩, hc1, hg1⟩
      have HD1 := hideH (HD.out.step hc1 hg1)
      have HO1 := hideH (HO.out.grown hg1 (fun q e he => by have := HO.out.base q he; simp at e; omega))
      obtain ⟨a0, rfl⟩ : ∃ a : Nat, x = a := ⟨x.toNat, by omega⟩
      have ha : a0 < zs.length := by omega
      clear hc1 hg1 HC HD HO x0 x1
      obtain ⟨g, rfl, hgB, hgw, hlc⟩ := HO1.out.at (by omega)
      go_wp2_with fail
      go_loop [8, 9] (fun i k => ∃ a b : Nat, i = .int .i64 a ∧ a < zs.length ∧ k = .int .i64 b ∧ b ≤ zs.length) (fun _ k => zs.length - (intOf k).toNat)
      case atStart => exact ⟨a0, 0, rfl, ha, rfl, Nat.zero_le _⟩
      case round =>
        clear ha
        obtain ⟨a, b, rfl, ha, rfl, hb⟩ := hrel
        have ca := HO1.out.cell ha
        have fa := HO1.out.free a
        obtain ⟨y, hy⟩ : ∃ y, zs.getD a 0 = y := ⟨_, rfl⟩
        rw [hy] at ca
        clear hy
        have hne : ((zs.length : Int) == 0) = false := by rw [beq_eq_false_iff_ne]; omega
        by_cases hx : y = m
        · subst hx
          by_cases hbl : b < zs.length
          · obtain ⟨a', ha'⟩ : ∃ a' : Nat, ((a : Int) + 1) % (zs.length : Int) = a' := ⟨(((a : Int) + 1) % (zs.length : Int)).toNat, by rw [Int.toNat_of_nonneg (Int.emod_nonneg _ (by omega))]⟩
            have ha2 : a' < zs.length := by have := Int.emod_lt_of_pos ((a : Int) + 1) (show (0 : Int) < zs.length by omega); rw [ha'] at this; omega
            have hat : ((a : Int) + 1).tmod (zs.length : Int) = a' := by rw [Int.tmod_eq_emod_of_nonneg (by omega)]; exact ha'
            go_wp2_with fail
            exact ⟨⟨a', b + 1, by go_num, ha2, by go_num, by omega⟩, by simp [intOf]; omega⟩
          · go_wp2_with fail
            go_ret
            exact ⟨⟨_, cap, zs, rfl, HO1.out, hzm⟩, HD1.out⟩
        · have hxb : (y == m) = false := by simp [hx]
          obtain ⟨Y, hY⟩ : ∃ Y, IntKind.i64.wrap (y + 1) = Y := ⟨_, rfl⟩
          have HO2 := hideH (HO1.out.set a Y)
          have HD2 := hideH (HD1.out.more hpw HCO.out (grownBy_setCell w1 ⟨g, a, none⟩ (.int .i64 Y)) (fun k e => by simp at e; omega))
          have cb : (w1.setCell ⟨g, a, none⟩ (.int .i64 Y)).cell? ⟨g, a, none⟩ = some (.int .i64 Y) := World.cell?_setCell_same _ _ _ ca
          have hl2 : (zs.set a Y).length = zs.length := by simp
          obtain ⟨w2, hw2⟩ : ∃ w2, w1.setCell ⟨g, a, none⟩ (.int .i64 Y) = w2 := ⟨_, rfl⟩
          rw [hw2] at HO2 HD2 cb
          generalize zs.set a Y = Z at *
          have HO3 : Hid (w2.ownsRow w.heap.size 2 1 (.slice (some ⟨g, 0, none⟩) zs.length cap) zs.length (Z.map (Value.int .i64))) := by
            have := HO2.out
            unfold OwnsI at this
            rw [hl2] at this
            exact this
          have hal : ∀ A t, w2.grownBy (w2.alloc (.cells A t)) none := fun A t => World.grownBy_alloc w2 _ _
          have HO4 := hideH (fun A t => World.ownsRow.kept HO3.out (hal A t) (.inr (by simp [Value.ownBlock])))
          have HD4 := hideH (fun A t => HD2.out.more hpw HCO.out (hal A t) (by intro j e; cases e))
          have hsz := HD2.out.grown.size
          have HN := hideH (news_one w2 (.int .i64 Y) 2)
          have hsz2 : w2.heap.size = w1.heap.size := by rw [← hw2]; simp
          have HSZ := hideH hsz2
          clear hx hal HO2 hsz2
          go_wp2_with (at_builtin; refine wpList_append_cells _ rfl _ _ 49 rfl w.heap.size 2 i0 (.int .i64 0) 1 8 Try.underlying49 hi hz0 hz1 hz2 rfl (by decide) (.slice (some ⟨g, 0, none⟩) zs.length cap) zs.length (Z.map (Value.int .i64)) rfl (HO4.out _ _) ⟨w2.heap.size, 0, none⟩ 1 1 [.int .i64 Y] rfl rfl HN.out (by intro u hu; simp at hu; subst hu; rfl) (by unfold maxLen; omega) (by omega) (by simp; omega) ?_)
          intro v4 w4 hown hgrow
          rw [show Z.map (Value.int .i64) ++ [Value.int .i64 Y] = (Z ++ [Y]).map (Value.int .i64) from by simp] at hown
          obtain ⟨ao4, cap4, rfl, ho4⟩ := OwnsI.of hown
          rw [blk_own64] at hgrow
          have HD5 := hideH ((HD4.out _ _).more hpw HCO.out hgrow (fun k e => by simp [blk] at e; omega))
          have HO5 := hideH ho4
          have hl4 : (Z ++ [Y]).length = zs.length + 1 := by simp [hl2]
          generalize Z ++ [Y] = U at *
          have hsub : n - U.length < n - zs.length := by omega
          clear hown hgrow ho4 HO4 HD4 HN
          go_wp2_with fail
          exact ⟨⟨ao4, cap4, U, rfl, by omega, by omega, HO5, HD5⟩, hsub⟩
    · go_wp2_with fail
      go_ret
      exact ⟨⟨ao, cap, zs, rfl, HO.out, hzm⟩, HD.out⟩
end Go.Proofs.Ytmfacacpoajpgab
