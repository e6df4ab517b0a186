import Derived.Test.YtmfacacpoajpgabHTT
import Derived.Test.YtmfacacpoajpgabOwnI
import Derived.Test.YtmfacacpoajpgabDraw
namespace Go.Proofs.Ytmfacacpoajpgab
open Go.RowKit
attribute [local go_sem ↓] Go.wp_at_zero Go.wp_at_succ
set_option linter.unusedVariables false

/-- The state of a draw: the cursor, and nothing else written. -/
structure Drew (w wr : World) (p : Nat) (co : Option Addr) (cc : Nat) (cs : List Int) : Prop where
  cur : Cur wr p co cc cs
  grown : w.grownBy wr (some p)
theorem Drew.step {w wr w' : World} {p : Nat} {co : Option Addr} {cc : Nat} {cs : List Int} (h : Drew w wr p co cc cs) (h1 : Cur w' p co cc cs) (h2 : wr.grownBy w' (some p)) : Drew w w' p co cc cs := ⟨h1, grownBy_trans h.grown h2⟩
/-- Other blocks, made since. -/
theorem Drew.more {w wr w' : World} {p : Nat} {co : Option Addr} {cc : Nat} {cs : List Int} {r : Option Nat} (h : Drew w wr p co cc cs) (hp : p < w.heap.size) (hco : ∀ ad, co = some ad → 0 < cs.length → ad.block < w.heap.size) (hg : wr.grownBy w' r) (hr : ∀ g, r = some g → w.heap.size ≤ g) : Drew w w' p co cc cs := by
  refine ⟨h.cur.grown hg (fun e => by have := hr p e.symm; omega) (fun ad e h0 he => by have := hr _ he.symm; have := hco ad e h0; omega), ?_⟩
  exact grownBy_new h.grown hg (fun g e => .inl (hr g e))
set_option maxRecDepth 100000 in
set_option maxHeartbeats 6400000 in
theorem l3Pick_any (p : Nat) (co : Option Addr) (cc : Nat) (cs : List Int) (n k : Nat) (w : World) (hc : Cur w p co cc cs) (hco : ∀ ad, co = some ad → 0 < cs.length → ad.block < w.heap.size) (hn : n ≤ 1000) (hk : k ≤ 1000) :
    Calls Try.prog 69 #[.pointer (some ⟨p, 0, none⟩), .int .i64 n, .int .i64 k] w fun e w' => (∃ ao cap us, e = .returned (.slice ao (List.length us) cap) ∧ OwnsI w.heap.size w' ao cap us ∧ (∀ u ∈ us, 0 ≤ u ∧ u < (n : Int)) ∧ us.length ≤ n) ∧ Drew w w' p co cc cs := by
  obtain ⟨i0, hi, hz0, hz1, hz2⟩ := info_parts Try.info_i64d
  have hpw := hc.lt
  have HO := hideH (ownI0 w w.heap.size (Nat.le_refl _))
  have HD : Hid (Drew w (w.alloc (.cells #[] 2)) p co cc cs) := Drew.more ⟨hc, World.grownBy.refl _ _⟩ hpw hco (World.grownBy_alloc w _ none) (fun g e => by cases e)
  clear hc
  have HCO := hideH hco
  clear hco
  go_enter Try.func69, Try.ntmps69
  go_wp2_with fail
  go_loopw [7, 8] (fun v i wr => ∃ (ao : Option Addr) (cap j : Nat) (us : List Int), j ≤ n ∧ v = .slice ao us.length cap ∧ i = .int .i64 j ∧ us.length ≤ j ∧ Hid (OwnsI w.heap.size wr ao cap us) ∧ Hid (∀ u ∈ us, 0 ≤ u ∧ u < (n : Int)) ∧ Hid (Drew w wr p co cc cs)) (fun _ i _ => n - (intOf i).toNat)
  case atStart => exact ⟨_, 0, 0, [], Nat.zero_le _, rfl, rfl, Nat.le_refl _, HO, (fun u hu => by cases hu), HD⟩
  case round =>
    clear HO HD
    obtain ⟨ao, cap, j, us, hj, rfl, rfl, hul, HO, HU, HD⟩ := hrel
    by_cases h1 : j < n
    · by_cases h2 : us.length < k
      · have HC := hideH (l1Below_any p co cc cs ((n : Int) - j) wr HD.out.cur (by omega) (by omega))
        go_wp2_with fail
        refine Calls.mono HC.out ?_
        rintro e w1 ⟨⟨x, rfl, x0, x1⟩, hc1, hg1⟩
        have HD1 := hideH (HD.out.step hc1 hg1)
        have HO1 := hideH (HO.out.grown hg1 (fun q e he => by have := HO.out.base q he; simp at e; omega))
        clear hc1 hg1 HC HD HO
        by_cases h3 : x < (k : Int) - us.length
        · have hal : ∀ A t, w1.grownBy (w1.alloc (.cells A t)) none := fun A t => World.grownBy_alloc w1 _ _
          have HO2 := hideH (fun A t => HO1.out.grown (hal A t) (by intro j e; cases e))
          have HD2 := hideH (fun A t => HD1.out.more hpw HCO.out (hal A t) (by intro j e; cases e))
          have hsz := HD1.out.grown.size
          have HN := hideH (news_one w1 (.int .i64 j) 2)
          clear hal
          go_wp2_with (at_builtin; refine wpList_append_cells _ rfl _ _ 49 rfl w.heap.size 2 i0 (.int .i64 0) 1 8 Try.underlying49 hi hz0 hz1 hz2 rfl (by decide) (.slice ao us.length cap) us.length (us.map (Value.int .i64)) rfl (HO2.out _ _) ⟨w1.heap.size, 0, none⟩ 1 1 [.int .i64 j] rfl rfl HN.out (by intro u hu; simp at hu; subst hu; rfl) (by unfold maxLen; omega) (by omega) (by simp; omega) ?_)
          intro v4 w4 hown hgrow
          rw [show us.map (Value.int .i64) ++ [Value.int .i64 (j : Int)] = (us ++ [(j : Int)]).map (Value.int .i64) from by simp] at hown
          obtain ⟨ao4, cap4, rfl, ho4⟩ := OwnsI.of hown
          rw [blk_own64] at hgrow
          have HD4 := hideH ((HD2.out _ _).more hpw HCO.out hgrow (fun g e => HO1.out.base g e))
          have HO4 := hideH ho4
          have HU4 : Hid (∀ u ∈ us ++ [(j : Int)], 0 ≤ u ∧ u < (n : Int)) := by
            intro u hu
            rcases List.mem_append.1 hu with h | h
            · exact HU.out u h
            · simp at h; subst h; omega
          have hl4 : (us ++ [(j : Int)]).length = us.length + 1 := by simp
          generalize us ++ [(j : Int)] = U at *
          clear hown hgrow ho4 HO2 HD2 HN
          go_wp2_with fail
          exact ⟨⟨ao4, cap4, j + 1, U, by omega, rfl, by go_num, by omega, HO4, HU4, HD4⟩, by simp [intOf]; omega⟩
        · go_wp2_with fail
          exact ⟨⟨ao, cap, j + 1, us, by omega, rfl, by go_num, by omega, HO1, HU, HD1⟩, by simp [intOf]; omega⟩
      · go_wp2_with fail
        go_ret
        exact ⟨⟨ao, cap, us, rfl, HO.out, HU.out, by omega⟩, HD.out⟩
    · go_wp2_with fail
      go_ret
      exact ⟨⟨ao, cap, us, rfl, HO.out, HU.out, by omega⟩, HD.out⟩
end Go.Proofs.Ytmfacacpoajpgab
