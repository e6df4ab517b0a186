import Derived.Test.YtmfacacpoajpgabDrawM
namespace Go.Proofs.Ytmfacacpoajpgab
open Go.RowKit
attribute [local go_sem ↓] Go.wp_at_zero Go.wp_at_succ
set_option linter.unusedVariables false

theorem Drew.row {w wr : World} {p : Nat} {co : Option Addr} {cc : Nat} {cs : List Int} (h : Drew w wr p co cc cs) {bo : Option Addr} {us : List Int} (hr : Row64 w bo us) (hb : ∀ ad, bo = some ad → ad.block ≠ p) : Row64 wr bo us :=
  hr.grown h.grown (fun ad e he => hb ad e (by simpa using he))
set_option maxRecDepth 100000 in
set_option maxHeartbeats 6400000 in
theorem l3Spread_any (p : Nat) (co bo : Option Addr) (cc bc : Nat) (cs us : List Int) (n : Nat) (m : Int) (w : World) (hc : Cur w p co cc cs) (hco : ∀ ad, co = some ad → 0 < cs.length → ad.block < w.heap.size) (hn : n ≤ 1000) (hr : Row64 w bo us) (hb : ∀ ad, bo = some ad → ad.block ≠ p) (hu : ∀ u ∈ us, 0 ≤ u ∧ u < (n : Int)) (hul : us.length ≤ 1000) :
    Calls Try.prog 68 #[.pointer (some ⟨p, 0, none⟩), .int .i64 n, .slice bo us.length bc, .int .i64 m] w fun e w' => (∃ ao cap zs, e = .returned (.slice ao (List.length zs) cap) ∧ OwnsI w.heap.size w' ao cap zs ∧ zs.length = n) ∧ Drew w w' p co cc cs := by
  obtain ⟨i0, hi, hz0, hz1, hz2⟩ := info_parts Try.info_i64d
  have hpw := hc.lt
  have HO := hideH (ownI0 w w.heap.size (Nat.le_refl _))
  have HD : Hid (Drew w (w.alloc (.cells #[] 2)) p co cc cs) := Drew.more ⟨hc, World.grownBy.refl _ _⟩ hpw hco (World.grownBy_alloc w _ none) (fun g e => by cases e)
  clear hc
  have HCO := hideH hco
  have HR := hideH hr
  have HBO := hideH hb
  have HU := hideH hu
  clear hco hr hb hu
  go_enter Try.func68, Try.ntmps68
  go_wp2_with fail
  go_loopw [9, 10] (fun v i wr => ∃ (ao : Option Addr) (cap j : Nat) (zs : List Int), j ≤ n ∧ v = .slice ao zs.length cap ∧ i = .int .i64 j ∧ Hid (zs.length = j) ∧ zs.length ≤ 1000 ∧ Hid (OwnsI w.heap.size wr ao cap zs) ∧ Hid (Drew w wr p co cc cs)) (fun _ i _ => n - (intOf i).toNat)
  case atStart => exact ⟨_, 0, 0, [], Nat.zero_le _, rfl, rfl, rfl, Nat.zero_le _, HO, HD⟩
  case round =>
    clear HO HD
    obtain ⟨ao, cap, j, zs, hj, rfl, rfl, HL, hzl, HO, HD⟩ := hrel
    by_cases h1 : j < n
    · have hal : ∀ A t, wr.grownBy (wr.alloc (.cells A t)) none := fun A t => World.grownBy_alloc wr _ _
      have HO2 := hideH (fun A t => HO.out.grown (hal A t) (by intro j e; cases e))
      have HD2 := hideH (fun A t => HD.out.more hpw HCO.out (hal A t) (by intro j e; cases e))
      have hsz := HD.out.grown.size
      have HN := hideH (news_one wr (.int .i64 0) 2)
      clear hal
      go_wp2_with (at_builtin; refine wpList_append_cells _ rfl _ _ 49 rfl w.heap.size 2 i0 (.int .i64 0) 1 8 Try.underlying49 hi hz0 hz1 hz2 rfl (by decide) (.slice ao zs.length cap) zs.length (zs.map (Value.int .i64)) rfl (HO2.out _ _) ⟨wr.heap.size, 0, none⟩ 1 1 [.int .i64 0] rfl rfl HN.out (by intro u hu; simp at hu; subst hu; rfl) (by unfold maxLen; omega) (by omega) (by simp; omega) ?_)
      intro v4 w4 hown hgrow
      rw [show zs.map (Value.int .i64) ++ [Value.int .i64 0] = (zs ++ [0]).map (Value.int .i64) from by simp] at hown
      obtain ⟨ao4, cap4, rfl, ho4⟩ := OwnsI.of hown
      rw [blk_own64] at hgrow
      have HD4 := hideH ((HD2.out _ _).more hpw HCO.out hgrow (fun g e => HO.out.base g e))
      have HO4 := hideH ho4
      have HL4 : Hid ((zs ++ [0]).length = j + 1) := by show _ = _; simp; exact HL.out
      have hl4 : (zs ++ [0]).length ≤ 1000 := by rw [HL4.out]; omega
      generalize zs ++ [0] = U at *
      clear hown hgrow ho4 HO2 HD2 HN
      go_wp2_with fail
      exact ⟨⟨ao4, cap4, j + 1, U, by omega, rfl, by go_num, HL4, hl4, HO4, HD4⟩, by simp [intOf]; omega⟩
    · have HLn : Hid (zs.length = n) := by show _ = _; rw [HL.out]; omega
      clear HL
      by_cases hu1 : us.length = 1
      · obtain ⟨u, rfl⟩ : ∃ u, us = [u] := by
          match us, hu1 with
          | [u], _ => exact ⟨u, rfl⟩
        obtain ⟨hu0, hun⟩ := HU.out u (by simp)
        obtain ⟨a, rfl⟩ : ∃ a : Nat, u = a := ⟨u.toNat, by omega⟩
        have ha : a < zs.length := by rw [HLn.out]; omega
        obtain ⟨b, off, rfl, hcb⟩ := (HD.out.row HR.out HBO.out).at (k := 0) (by simp)
        have cu := hcb 0 (by simp)
        simp only [List.getD_cons_zero, Nat.add_zero] at cu
        obtain ⟨g, rfl, hgB, hgw, hlc⟩ := HO.out.at (by omega)
        have ca := HO.out.cell ha
        have fa := HO.out.free a
        have HO2 := hideH (HO.out.set a 1)
        have HD2 := hideH (HD.out.more hpw HCO.out (grownBy_setCell wr ⟨g, a, none⟩ (.int .i64 1)) (fun k e => by simp at e; omega))
        have HLs : Hid ((zs.set a 1).length = n) := by show _ = _; rw [List.length_set]; exact HLn.out
        have hls : (zs.set a 1).length = zs.length := List.length_set
        generalize zs.getD a 0 = y at *
        clear hcb hu1 hu0 hun HU HR HBO
        go_wp2_with fail
        go_ret
        refine ⟨⟨_, cap, zs.set a 1, by rw [hls]; rfl, HO2.out, HLs.out⟩, HD2.out⟩
      · by_cases hu2 : 1 < us.length
        · have HC := hideH (l3Leaves_any p co cc cs us.length m wr HD.out.cur (fun ad e h0 => by have := HCO.out ad e h0; have := HD.out.grown.size; omega) hul)
          have hu1b : ((us.length : Int) == 1) = false := by rw [beq_eq_false_iff_ne]; omega
          go_wp2_with fail
          refine Calls.mono HC.out ?_
          rintro e w1 ⟨⟨ao1, cap1, ls, rfl, ho1, hl1⟩, hd1⟩
          have hs0 := HD.out.grown.size
          have HD1 := hideH (HD.out.step hd1.cur hd1.grown)
          have HO1 := hideH (HO.out.grown hd1.grown (fun q e he => by have := HO.out.base q he; simp at e; omega))
          have HLS := hideH ho1
          have hrw := HD.out.cur.lt
          have HF : Hid (∀ g, blk ao = some g → blk ao1 ≠ some g) := fun g e e1 => by
            have h2 := ho1.base g e1
            by_cases h0 : 0 < zs.length
            · obtain ⟨g', rfl, _, h3, _⟩ := HO.out.at h0
              simp [blk] at e
              omega
            · rcases HO.out.2 with ⟨h1, _⟩ | ⟨g', cap', cur, h1, _, h3, _⟩
              · simp only [Value.slice.injEq] at h1
                rw [h1.1] at e
                cases e
              · simp only [Value.slice.injEq] at h1
                rw [h1.1] at e
                simp [blk] at e
                have := (Array.getElem?_eq_some_iff.1 h3).1
                omega
          clear ho1 hd1 HC HO HD
          go_wp2_with fail
          go_loopw [12] (fun i wr => ∃ (j : Nat) (zs' : List Int), j ≤ us.length ∧ i = .int .i64 j ∧ Hid (zs'.length = zs.length) ∧ Hid (OwnsI w.heap.size wr ao cap zs') ∧ Hid (Row64 wr ao1 ls) ∧ Hid (Drew w wr p co cc cs)) (fun i _ => us.length - (intOf i).toNat)
          case atStart => exact ⟨0, zs, Nat.zero_le _, rfl, rfl, HO1, HLS.out.row, HD1⟩
          case round =>
            clear HO1 HD1
            obtain ⟨j, zs', hj, rfl, HZ, HO, HLr, HD⟩ := hrel
            by_cases h3 : j < us.length
            · by_cases h4 : j < ls.length
              · have hm := HU.out (us.getD j 0) (by simp [List.getD, h3])
                obtain ⟨a, ha⟩ : ∃ a : Nat, us.getD j 0 = a := ⟨(us.getD j 0).toNat, by omega⟩
                rw [ha] at hm
                have ha2 : a < zs.length := by rw [HLn.out]; omega
                have ha3 : a < zs'.length := by rw [HZ.out]; exact ha2
                obtain ⟨b, off, rfl, hcb⟩ := (HD.out.row HR.out HBO.out).at h3
                have cu := hcb j h3
                rw [ha] at cu
                obtain ⟨b1, off1, rfl, hcl⟩ := HLr.out.at h4
                have cl := hcl j h4
                obtain ⟨g, rfl, hgB, hgw, hlc⟩ := HO.out.at (by omega)
                have ca := HO.out.cell ha3
                have fa := HO.out.free a
                generalize ls.getD j 0 = v at *
                have HO2 := hideH (HO.out.set a v)
                have HD2 := hideH (HD.out.more hpw HCO.out (grownBy_setCell wr ⟨g, a, none⟩ (.int .i64 v)) (fun k e => by simp at e; omega))
                have hgb : g ≠ b1 := fun e => HF.out g rfl (by rw [e]; rfl)
                have HLr2 := hideH (HLr.out.grown (grownBy_setCell wr ⟨g, a, none⟩ (.int .i64 v)) (fun ad e he => by cases e; simp at he; omega))
                have HZ2 : Hid ((zs'.set a v).length = zs.length) := by show _ = _; rw [List.length_set]; exact HZ.out
                generalize zs'.getD a 0 = y at *
                clear hcb hcl ha
                go_upto_region 13 with fail
                go_region
                go_wp2_with fail
                have hdr : Below (wr.setCell ⟨g, a, none⟩ (.int .i64 v)).heap.size (wr.setCell ⟨g, a, none⟩ (.int .i64 v)) (wr.setCell ⟨g, a, none⟩ (.int .i64 v)).drew := (Below.refl _ _).drew
                exact ⟨⟨j + 1, zs'.set a v, by omega, by go_num, HZ2, HO2.out.below hdr, HLr2.out.below hdr, HD2.out.more hpw HCO.out (grownBy_of_below hdr none) (fun g e => by cases e)⟩, by simp [intOf]; omega⟩
              · go_wp2_with fail
                go_ret
                exact ⟨⟨ao, cap, zs', by rw [HZ.out]; rfl, HO.out, by rw [HZ.out, HLn.out]⟩, HD.out⟩
            · go_wp2_with fail
              go_ret
              exact ⟨⟨ao, cap, zs', by rw [HZ.out]; rfl, HO.out, by rw [HZ.out, HLn.out]⟩, HD.out⟩
        · have hu0 : us.length = 0 := by omega
          have hu1b : ((us.length : Int) == 1) = false := by rw [beq_eq_false_iff_ne]; omega
          go_wp2_with fail
          go_ret
          exact ⟨⟨ao, cap, zs, rfl, HO.out, HLn.out⟩, HD.out⟩
end Go.Proofs.Ytmfacacpoajpgab
