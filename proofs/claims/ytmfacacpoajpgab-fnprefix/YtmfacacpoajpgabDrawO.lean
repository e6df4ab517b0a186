import Derived.Test.YtmfacacpoajpgabDrawN
namespace Go.Proofs.Ytmfacacpoajpgab
open Go.RowKit
attribute [local go_sem ↓] Go.wp_at_zero Go.wp_at_succ
set_option linter.unusedVariables false

theorem OwnsI.mono {B B' : Nat} {w : World} {ao : Option Addr} {cap : Nat} {zs : List Int} (h : OwnsI B w ao cap zs) (hB : B' ≤ B) : OwnsI B' w ao cap zs := by
  refine ⟨h.1, ?_⟩
  rcases h.2 with h2 | ⟨g, c, cur, h3, h4, h5⟩
  · exact .inl h2
  · exact .inr ⟨g, c, cur, h3, Nat.le_trans hB h4, h5⟩
set_option maxRecDepth 100000 in
set_option maxHeartbeats 6400000 in
theorem l3DrawLens_any (p : Nat) (co : Option Addr) (cc : Nat) (cs : List Int) (w : World) (hc : Cur w p co cc cs) (hco : ∀ ad, co = some ad → 0 < cs.length → ad.block < w.heap.size) :
    Calls Try.prog 54 #[.pointer (some ⟨p, 0, none⟩)] w fun e w' => (∃ ao cap zs, e = .returned (.slice ao (List.length zs) cap) ∧ OwnsI w.heap.size w' ao cap zs ∧ zs.length ≤ 1000) ∧ Drew w w' p co cc cs := by
  obtain ⟨i0, hi, hz0, hz1, hz2⟩ := info_parts Try.info_i64d
  have hpw := hc.lt
  have HD0 : Hid (Drew w w p co cc cs) := ⟨hc, World.grownBy.refl _ _⟩
  have HCO := hideH hco
  clear hc hco
  go_enter Try.func54, Try.ntmps54
  go_wp2_with fail
  refine (l1Below_any p co cc cs 24 _ HD0.out.cur (by omega) (by omega)).mono ?_
  rintro e w1 ⟨⟨x1, rfl, x10, x11⟩, hc1, hg1⟩
  have HD1 := hideH (HD0.out.step hc1 hg1)
  obtain ⟨N, hN⟩ : ∃ N : Nat, 1 + x1 = N := ⟨(1 + x1).toNat, by omega⟩
  have hN2 : x1 + 1 = N := by omega
  have hN1 : 1 ≤ N := by omega
  have hN24 : N ≤ 24 := by omega
  clear hc1 hg1 HD0
  go_wp2_with fail
  refine (l1Below_any p co cc cs ((N : Int) + 1) _ HD1.out.cur (by omega) (by omega)).mono ?_
  rintro e w2 ⟨⟨x2, rfl, x20, x21⟩, hc2, hg2⟩
  have HD2 := hideH (HD1.out.step hc2 hg2)
  obtain ⟨K, rfl⟩ : ∃ K : Nat, x2 = K := ⟨x2.toNat, by omega⟩
  clear hc2 hg2 HD1 hN hN2 x10 x11
  go_wp2_with fail
  refine (l1Below_any p co cc cs 15 _ HD2.out.cur (by omega) (by omega)).mono ?_
  rintro e w3 ⟨⟨x3, rfl, x30, x31⟩, hc3, hg3⟩
  have HD3 := hideH (HD2.out.step hc3 hg3)
  obtain ⟨M, hM⟩ : ∃ M : Int, 1 + x3 = M := ⟨_, rfl⟩
  clear hc3 hg3 HD2
  go_wp2_with fail
  refine (l3Pick_any p co cc cs N K _ HD3.out.cur (fun ad e h0 => by have := HCO.out ad e h0; have := HD3.out.grown.size; omega) (by omega) (by omega)).mono ?_
  rintro e w4 ⟨⟨ao4, cap4, us, rfl, ho4, hu4, hl4⟩, hd4⟩
  have hs3 := HD3.out.grown.size
  have HD4 := hideH (HD3.out.step hd4.cur hd4.grown)
  have HC5 := hideH (l3Spread_any p co ao4 cc cap4 cs us N M w4 hd4.cur (fun ad e h0 => by have := HCO.out ad e h0; have := HD4.out.grown.size; omega) (by omega) ho4.row (fun ad e he => by
    have h1 := HD3.out.cur.lt
    have h2 := ho4.base ad.block (by rw [e]; rfl)
    omega) hu4 (by omega))
  clear hd4 HD3 ho4 hu4
  go_wp2_with fail
  refine Calls.mono HC5.out ?_
  rintro e w5 ⟨⟨ao5, cap5, zs5, rfl, ho5, hl5⟩, hd5⟩
  have HD5 := hideH (HD4.out.step hd5.cur hd5.grown)
  have hs4 := HD4.out.grown.size
  have HO5 := hideH (ho5.mono hs4)
  have HL5 := hideH hl5
  have hz5 : zs5.length ≤ 1000 := by omega
  clear hd5 ho5 hl5 HD4 HC5
  go_wp2_with fail
  refine (l1Below_any p co cc cs 8 _ HD5.out.cur (by omega) (by omega)).mono ?_
  rintro e w6 ⟨⟨x6, rfl, x60, x61⟩, hc6, hg6⟩
  have HD6 := hideH (HD5.out.step hc6 hg6)
  have HO6 := hideH (HO5.out.grown hg6 (fun q e he => by have := HO5.out.base q he; simp at e; omega))
  clear hc6 hg6 HD5 HO5
  go_wp2_with fail
  refine (l1Below_any p co cc cs (N : Int) _ HD6.out.cur (by omega) (by omega)).mono ?_
  rintro e w7 ⟨⟨x7, rfl, x70, x71⟩, hc7, hg7⟩
  have HD7 := hideH (HD6.out.step hc7 hg7)
  have HO7 := hideH (HO6.out.grown hg7 (fun q e he => by have := HO6.out.base q he; simp at e; omega))
  obtain ⟨a, rfl⟩ : ∃ a : Nat, x7 = a := ⟨x7.toNat, by omega⟩
  have ha : a < N := by omega
  clear hc7 hg7 HD6 HO6
  go_upto_if 33 with fail
  go_cut [6] from 9 to 73 (fun v wx => ∃ (ao : Option Addr) (cap : Nat) (zs : List Int), v = .slice ao zs.length cap ∧ Hid (zs.length = N) ∧ zs.length ≤ 1000 ∧ Hid (OwnsI w.heap.size wx ao cap zs) ∧ Hid (Drew w wx p co cc cs))
  case first =>
    by_cases hj : x6 = 0
    · subst hj
      have HC := hideH (l1Below_any p co cc cs 18 _ HD7.out.cur (by omega) (by omega))
      go_wp2_with fail
      refine Calls.mono HC.out ?_
      rintro e w8 ⟨⟨x8, rfl, x80, x81⟩, hc8, hg8⟩
      have HD8 := hideH (HD7.out.step hc8 hg8)
      have HO8 := hideH (HO7.out.grown hg8 (fun q e he => by have := HO7.out.base q he; simp at e; omega))
      have haz : a < zs5.length := by rw [HL5.out]; exact ha
      obtain ⟨g, rfl, hgB, hgw, hlc⟩ := HO8.out.at (by omega)
      have ca := HO8.out.cell haz
      have fa := HO8.out.free a
      have HO9 := hideH (HO8.out.set a (x8 - 1))
      have HD9 := hideH (HD8.out.more hpw HCO.out (grownBy_setCell w8 ⟨g, a, none⟩ (.int .i64 (x8 - 1))) (fun k e => by simp at e; omega))
      have HL9 : Hid ((zs5.set a (x8 - 1)).length = N) := by show _ = _; rw [List.length_set]; exact HL5.out
      have hl9 : (zs5.set a (x8 - 1)).length = zs5.length := List.length_set
      generalize zs5.getD a 0 = y at *
      clear hc8 hg8 HD7 HO7
      go_wp2_with fail
      go_meet
      exact ⟨_, cap5, zs5.set a (x8 - 1), by rw [hl9], HL9, by rw [hl9]; exact hz5, HO9, HD9⟩
    · have hjb : (x6 == 0) = false := by simp [hj]
      go_wp2_with fail
      go_meet
      exact ⟨ao5, cap5, zs5, rfl, HL5, hz5, HO7, HD7⟩
  case rest =>
    clear HO7 HD7 HL5 hz5
    obtain ⟨ao8, cap8, zs8, rfl, HL8, hz8, HO8, HD8⟩ := hcut
    have haz : a < zs8.length := by rw [HL8.out]; exact ha
    obtain ⟨g, rfl, hgB, hgw, hlc⟩ := HO8.out.at (by omega)
    have ca := HO8.out.cell haz
    have fa := HO8.out.free a
    obtain ⟨y, hy⟩ : ∃ y, zs8.getD a 0 = y := ⟨_, rfl⟩
    rw [hy] at ca
    clear hy
    go_upto_region 9 with fail
    go_cut [48] from 9 to 73 (fun v wx => v = .bool (decide (x6 = 1 ∧ y < 15)) ∧ wx = wc)
    case first =>
      by_cases hj : x6 = 1
      · subst hj
        by_cases hy : y < 15
        · go_wp2_with fail
          go_meet
          exact ⟨by simp [hy], rfl⟩
        · go_wp2_with fail
          go_meet
          exact ⟨by simp [hy], rfl⟩
      · have hjb : (x6 == 1) = false := by simp [hj]
        go_wp2_with fail
        go_meet
        exact ⟨by simp [hj], rfl⟩
    case rest =>
      obtain ⟨rfl, rfl⟩ := hcut
      go_upto_if 48 with fail
      go_cut [6] from 9 to 73 (fun v wx => ∃ (ao : Option Addr) (cap : Nat) (zs : List Int), v = .slice ao zs.length cap ∧ Hid (zs.length = N) ∧ zs.length ≤ 1000 ∧ Hid (OwnsI w.heap.size wx ao cap zs) ∧ Hid (Drew w wx p co cc cs))
      case first =>
        by_cases hjy : x6 = 1 ∧ y < 15
        · have hd : decide (x6 = 1 ∧ y < 15) = true := decide_eq_true hjy
          rw [hd]
          obtain ⟨Y, hY⟩ : ∃ Y, IntKind.i64.wrap (y + 1) = Y := ⟨_, rfl⟩
          have HO9 := hideH (HO8.out.set a Y)
          have HD9 := hideH (HD8.out.more hpw HCO.out (grownBy_setCell wc ⟨g, a, none⟩ (.int .i64 Y)) (fun k e => by simp at e; omega))
          have HL9 : Hid ((zs8.set a Y).length = N) := by show _ = _; rw [List.length_set]; exact HL8.out
          have hl9 : (zs8.set a Y).length = zs8.length := List.length_set
          clear hd hjy
          go_wp2_with fail
          go_meet
          exact ⟨_, cap8, zs8.set a Y, by rw [hl9], HL9, by rw [hl9]; exact hz8, HO9, HD9⟩
        · have hd : decide (x6 = 1 ∧ y < 15) = false := decide_eq_false hjy
          rw [hd]
          clear hd hjy
          go_wp2_with fail
          go_meet
          exact ⟨_, cap8, zs8, rfl, HL8, hz8, HO8, HD8⟩
      case rest =>
        clear haz ca fa hgw hlc HL8 hz8 HO8 HD8
        obtain ⟨ao10, cap10, zs10, rfl, HL10, hz10, HO10, HD10⟩ := hcut
        rename_i wd _
        go_upto_if 58 with fail
        go_cut [6] from 9 to 73 (fun v wx => ∃ (ao : Option Addr) (cap : Nat) (zs : List Int), v = .slice ao zs.length cap ∧ Hid (zs.length = N) ∧ zs.length ≤ 1000 ∧ Hid (OwnsI w.heap.size wx ao cap zs) ∧ Hid (Drew w wx p co cc cs))
        case first =>
          by_cases hj : x6 = 2
          · subst hj
            have haz : a < zs10.length := by rw [HL10.out]; exact ha
            obtain ⟨g, rfl, hgB, hgw, hlc⟩ := HO10.out.at (by omega)
            have ca := HO10.out.cell haz
            have fa := HO10.out.free a
            have HO9 := hideH (HO10.out.set a 0)
            have HD9 := hideH (HD10.out.more hpw HCO.out (grownBy_setCell _ ⟨g, a, none⟩ (.int .i64 0)) (fun k e => by simp at e; omega))
            have HL9 : Hid ((zs10.set a 0).length = N) := by show _ = _; rw [List.length_set]; exact HL10.out
            have hl9 : (zs10.set a 0).length = zs10.length := List.length_set
            generalize zs10.getD a 0 = y at *
            go_wp2_with fail
            go_meet
            exact ⟨_, cap10, zs10.set a 0, by rw [hl9], HL9, by rw [hl9]; exact hz10, HO9, HD9⟩
          · have hjb : (x6 == 2) = false := by simp [hj]
            go_wp2_with fail
            go_meet
            exact ⟨_, cap10, zs10, rfl, HL10, hz10, HO10, HD10⟩
        case rest =>
          clear HL10 hz10 HO10 HD10
          obtain ⟨ao11, cap11, zs11, rfl, HL11, hz11, HO11, HD11⟩ := hcut
          have HC := hideH (l1Once_any p co cc cs 40 _ HD11.out.cur (by omega) (by omega))
          go_wp2_with fail
          refine Calls.mono HC.out ?_
          rintro e w12 ⟨⟨b12, rfl⟩, hc12, hg12⟩
          have HD12 := hideH (HD11.out.step hc12 hg12)
          have HO12 := hideH (HO11.out.grown hg12 (fun q e he => by have := HO11.out.base q he; simp at e; omega))
          have hz12 : zs11.length ≤ 321 := by rw [HL11.out]; omega
          clear hc12 hg12 HD11 HO11 HC HL11
          cases b12 with
          | false =>
            go_wp2_with fail
            go_ret
            exact ⟨⟨_, cap11, zs11, rfl, HO12.out, hz11⟩, HD12.out⟩
          | true =>
            go_wp2_with fail
            go_loopw [6] (fun v wx => ∃ (ao : Option Addr) (cap : Nat) (zs : List Int), v = .slice ao zs.length cap ∧ zs.length ≤ 321 ∧ Hid (OwnsI w.heap.size wx ao cap zs) ∧ Hid (Drew w wx p co cc cs)) (fun v _ => match v with | .slice _ l _ => 321 - l | _ => 0)
            case atStart => exact ⟨ao11, cap11, zs11, rfl, hz12, HO12, HD12⟩
            case round =>
              clear HO12 HD12 hz11 hz12
              obtain ⟨ao, cap, zs, rfl, hzl, HO, HD⟩ := hrel
              have HC := hideH (l1Below_any p co cc cs 2 _ HD.out.cur (by omega) (by omega))
              go_wp2_with fail
              refine Calls.mono HC.out ?_
              rintro e w1 ⟨⟨x, rfl, xx0, xx1⟩, hc1, hg1⟩
              have HD1 := hideH (HD.out.step hc1 hg1)
              have HO1 := hideH (HO.out.grown hg1 (fun q e he => by have := HO.out.base q he; simp at e; omega))
              clear hc1 hg1 HC HD HO
              by_cases h3 : (zs.length : Int) < 320 + x
              · have hal : ∀ A t, w1.grownBy (w1.alloc (.cells A t)) none := fun A t => World.grownBy_alloc w1 _ _
                have HO2 := hideH (fun A t => HO1.out.grown (hal A t) (by intro j e; cases e))
                have HD2 := hideH (fun A t => HD1.out.more hpw HCO.out (hal A t) (by intro j e; cases e))
                have hsz := HD1.out.grown.size
                have HN := hideH (news_one w1 (.int .i64 0) 2)
                clear hal
                go_wp2_with (at_builtin; refine wpList_append_cells _ rfl _ _ 49 rfl w.heap.size 2 i0 (.int .i64 0) 1 8 Try.underlying49 hi hz0 hz1 hz2 rfl (by decide) (.slice ao zs.length cap) zs.length (zs.map (Value.int .i64)) rfl (HO2.out _ _) ⟨w1.heap.size, 0, none⟩ 1 1 [.int .i64 0] rfl rfl HN.out (by intro u hu; simp at hu; subst hu; rfl) (by unfold maxLen; omega) (by omega) (by simp; omega) ?_)
                intro v4 w4 hown hgrow
                rw [show zs.map (Value.int .i64) ++ [Value.int .i64 0] = (zs ++ [0]).map (Value.int .i64) from by simp] at hown
                obtain ⟨ao4', cap4', rfl, ho4⟩ := OwnsI.of hown
                rw [blk_own64] at hgrow
                have HD4 := hideH ((HD2.out _ _).more hpw HCO.out hgrow (fun g e => HO1.out.base g e))
                have HO4 := hideH ho4
                have hl4' : (zs ++ [0]).length = zs.length + 1 := by simp
                generalize zs ++ [0] = U at *
                have hsub : 321 - U.length < 321 - zs.length := by omega
                clear hown hgrow ho4 HO2 HD2 HN
                go_wp2_with fail
                exact ⟨⟨ao4', cap4', U, rfl, by omega, HO4, HD4⟩, hsub⟩
              · go_wp2_with fail
                go_ret
                exact ⟨⟨ao, cap, zs, rfl, HO1.out, by omega⟩, HD1.out⟩
set_option maxHeartbeats 3200000 in
theorem drawLens_any (co : Option Addr) (cc : Nat) (cs : List Int) (w : World) (hr : Row w co cs) (ho : Octets cs) (hl : cs.length ≤ 1048576) :
    Calls Try.prog 31 #[.slice co cs.length cc] w fun e w' => (∃ ao cap zs, e = .returned (.slice ao (List.length zs) cap) ∧ Row64 w' ao zs ∧ zs.length ≤ 1000) ∧ Below w.heap.size w w' := by
  have HL := hideH hr.lives
  have HR := hideH hr
  clear hr
  go_enter Try.func31, Try.ntmps31
  go_wp2_with fail
  refine (l1New_any co cc cs w HR.out hl).mono ?_
  rintro e w1 ⟨p, rfl, ⟨h, hs⟩, hp, hb1, hlt⟩
  subst hp
  have hc1 : Cur w1 w.heap.size co cc cs := ⟨0, h, Nat.zero_le _, hs, HR.out.below hb1, ho, fun ad e h => by have := HL.out ad e h; omega, hl⟩
  have HC1 := hideH (l3DrawLens_any w.heap.size co cc cs w1 hc1 (fun ad e h => by have := HL.out ad e h; omega))
  have HB1 := hideH hb1
  clear hs hc1 hb1
  go_wp2_with fail
  refine Calls.mono HC1.out ?_
  rintro e w2 ⟨⟨ao, cap, zs, rfl, ho2, hz⟩, hd⟩
  have HB2 := hideH (HB1.out.grown hd.grown HB1.out.size (by intro k e; simp at e; omega))
  have HR2 := hideH ho2.row
  clear ho2 hd HC1
  go_wp2_with fail
  go_ret
  exact ⟨⟨ao, cap, zs, rfl, HR2.out, hz⟩, HB2.out⟩
end Go.Proofs.Ytmfacacpoajpgab
