import Derived.Test.YtjknaigdlkpiaaaWinC
namespace Go.Proofs.Ytjknaigdlkpiaaa
open Go.RowKit
attribute [local go_sem ↓] Go.wp_at_zero Go.wp_at_succ
set_option linter.unusedVariables false

set_option maxRecDepth 100000 in
set_option maxHeartbeats 3200000 in
theorem scopy_no (s d m : Int) (zs : List Int) (ao : Option Addr) (cap : Nat) (w : World) (hn : zs.length ≤ 9223372036854775807) (hv : vcpy zs.length s d m = false) :
    Calls Try.prog 10 #[.agg #[.int .i64 s, .slice ao zs.length cap], .int .i64 d, .int .i64 m] w fun e w' => ResC w.heap.size w' e false [] 0 [] ∧ Below w.heap.size w w' := by
  have hb0 : Below w.heap.size w ((w.alloc (.cells #[.int .i64 s, .slice ao zs.length cap] 26)).alloc (.cells #[.bool false, .slice none 0 0, .int .i64 0, .slice none 0 0] 28)) := ((Below.refl _ _).alloc (Nat.le_refl _) _).alloc (by simp) _
  have hX := (win_new w s (.slice ao zs.length cap) 26).alloc (.cells #[.bool false, .slice none 0 0, .int .i64 0, .slice none 0 0] 28)
  have hW := cpy_new (w.alloc (.cells #[.int .i64 s, .slice ao zs.length cap] 26)) false (.slice none 0 0) 0 (.slice none 0 0) 28
  have HV : Hid _ := svalidw_any ao zs.length cap s
  simp only [World.size_alloc] at hW
  have HX := hide1 hX
  have HW := hide1 hW
  have HB := hide1 hb0
  clear hX hW hb0
  go_enter Try.func10, Try.ntmps10
  go_wp2_with fail
  refine Calls.mono (HV.out _) ?_
  rintro e w1 ⟨rfl, hb1⟩
  have HX1 := hide1 (HX.out.below hb1)
  have hb := HB.out.trans (hb1.mono (by simp; omega))
  obtain ⟨k3, k4⟩ := cpy_set (HW.out.below hb1) false (.slice none 0 0) 0 (.slice none 0 0)
  have hb2 := hb.grown k4 hb.size (by intro k e; simp at e; omega)
  obtain ⟨x0, x1⟩ := HX1.out.two
  obtain ⟨r0, r1, r2, r3, f0, f1, f2, f3⟩ := HW.out.below hb1
  obtain ⟨y0, y1, y2, y3, _⟩ := k3
  clear hb1 k4 HV
  by_cases v : vwin zs.length s = true
  · rw [v]
    have hq : ¬ (1 ≤ m ∧ m ≤ 258 ∧ 1 ≤ d ∧ d ≤ (zs.length : Int)) := by
      simp only [vcpy, v, Bool.true_and] at hv
      exact of_decide_eq_false hv
    by_cases c1 : m < 1
    · have d1 : decide (m < 1) = true := decide_eq_true c1
      go_wp2_with fail
      exact bodyPost_ret (v := .agg #[.bool false, .slice none 0 0, .int .i64 0, .slice none 0 0]) (by simp [results, Try.results10, go_sem, y0, y1, y2, y3]) rfl ⟨ResC.zero _ _, hb2⟩
    · have d1 : decide (m < 1) = false := decide_eq_false c1
      by_cases c2 : 258 < m
      · have d2 : decide (258 < m) = true := decide_eq_true c2
        go_wp2_with fail
        exact bodyPost_ret (v := .agg #[.bool false, .slice none 0 0, .int .i64 0, .slice none 0 0]) (by simp [results, Try.results10, go_sem, y0, y1, y2, y3]) rfl ⟨ResC.zero _ _, hb2⟩
      · have d2 : decide (258 < m) = false := decide_eq_false c2
        by_cases c3 : d < 1
        · have d3 : decide (d < 1) = true := decide_eq_true c3
          go_wp2_with fail
          exact bodyPost_ret (v := .agg #[.bool false, .slice none 0 0, .int .i64 0, .slice none 0 0]) (by simp [results, Try.results10, go_sem, y0, y1, y2, y3]) rfl ⟨ResC.zero _ _, hb2⟩
        · have d3 : decide (d < 1) = false := decide_eq_false c3
          have d4 : decide ((zs.length : Int) < d) = true := decide_eq_true (by omega)
          go_wp2_with fail
          exact bodyPost_ret (v := .agg #[.bool false, .slice none 0 0, .int .i64 0, .slice none 0 0]) (by simp [results, Try.results10, go_sem, y0, y1, y2, y3]) rfl ⟨ResC.zero _ _, hb2⟩
  · have v : vwin zs.length s = false := by simpa using v
    rw [v]
    go_wp2_with fail
    exact bodyPost_ret (v := .agg #[.bool false, .slice none 0 0, .int .i64 0, .slice none 0 0]) (by simp [results, Try.results10, go_sem, y0, y1, y2, y3]) rfl ⟨ResC.zero _ _, hb2⟩

set_option maxRecDepth 100000 in
set_option maxHeartbeats 6400000 in
theorem scopy_yes (s d m : Nat) (zs : List Int) (ao : Option Addr) (cap : Nat) (w : World) (ha : Arg w ao cap zs) (hs0 : 0 < s) (hs : s ≤ 32768) (hz : zs.length ≤ s) (hd0 : 1 ≤ d) (hd : d ≤ zs.length) (hm0 : 1 ≤ m) (hm : m ≤ 258) (v : vwin zs.length s = true) :
    Calls Try.prog 10 #[.agg #[.int .i64 s, .slice ao zs.length cap], .int .i64 d, .int .i64 m] w fun e w' => ResC w.heap.size w' e true (dataN zs d m) s (lastN s (copyN zs d m)) ∧ Below w.heap.size w w' := by
  obtain ⟨i0, hi, hz0, hz1, hz2⟩ := info_parts Try.info_u8s
  have hb0 : Below w.heap.size w ((w.alloc (.cells #[.int .i64 s, .slice ao zs.length cap] 26)).alloc (.cells #[.bool false, .slice none 0 0, .int .i64 0, .slice none 0 0] 28)) := ((Below.refl _ _).alloc (Nat.le_refl _) _).alloc (by simp) _
  have hX := (win_new w s (.slice ao zs.length cap) 26).alloc (.cells #[.bool false, .slice none 0 0, .int .i64 0, .slice none 0 0] 28)
  have hW := cpy_new (w.alloc (.cells #[.int .i64 s, .slice ao zs.length cap] 26)) false (.slice none 0 0) 0 (.slice none 0 0) 28
  have HV : Hid _ := svalidw_any ao zs.length cap s
  simp only [World.size_alloc] at hW
  have HX := hide1 hX
  have HW := hide1 hW
  have HB := hide1 hb0
  have HA := hide1 ha
  clear hX hW hb0 ha
  have d1 : decide ((m : Int) < 1) = false := decide_eq_false (by omega)
  have d2 : decide (258 < (m : Int)) = false := decide_eq_false (by omega)
  have d3 : decide ((d : Int) < 1) = false := decide_eq_false (by omega)
  have d4 : decide ((zs.length : Int) < (d : Int)) = false := decide_eq_false (by omega)
  go_enter Try.func10, Try.ntmps10
  go_wp2_with fail
  refine Calls.mono (HV.out _) ?_
  rintro e w1 ⟨rfl, hb1⟩
  rw [v]
  have HX1 := hide1 (HX.out.below hb1)
  have HW1 := hide1 (HW.out.below hb1)
  have HB1 := hide1 (HB.out.trans (hb1.mono (by simp; omega)))
  have a1 := HA.out.below HB1.out
  obtain ⟨x0, x1⟩ := HX1.out.two
  have z1 := HW1.out.lt
  have hd1 : Below w1.heap.size w1 (w1.alloc (.cells #[] 5)) := (Below.refl _ _).alloc (Nat.le_refl _) _
  have a2 := a1.below hd1
  have R1 := hide1 a2.row
  have N1 : Hid (ao = none → zs.length = 0 ∧ cap = 0) := fun e => ⟨a2.row.none_len e, a2.bare e⟩
  have HD1 := hide1 hd1
  obtain ⟨q0, q1⟩ := (HX1.out.alloc (.cells #[] 5)).two
  clear hb1 a1 a2 HV HX HW HB HA hd1
  go_wp2_with (at_builtin; refine wpList_append_row _ rfl _ _ 22 rfl w1.heap.size 5 i0 (.int .u8 0) 1 Try.underlying22 hi hz0 hz1 hz2 rfl (.slice (some ⟨w1.heap.size, 0, none⟩) 0 0) 0 [] rfl (ownw0 _ _ _ _ (Nat.le_refl _) rfl) ao cap zs rfl R1.out N1.out (by unfold maxLen; omega) (by omega) (by simp) ?_)
  intro v3 w3 hown hgrow hat
  obtain ⟨ao3, cap3, e3, ho3⟩ := OwnsB.of hown
  rw [e3]
  have hb3 : Below w1.heap.size w1 w3 := HD1.out.grown hgrow (by simp) (by intro k e; simp [Value.ownBlock] at e; omega)
  clear hown hgrow hat e3 R1 N1 HD1 q0 q1
  go_wp2_with fail
  go_loopw [7, 8] (fun v i wr => ∃ (k : Nat) (D : List Int) (ao' : Option Addr) (cap' : Nat), k ≤ m ∧ i = .int .i64 k ∧ v = .slice ao' D.length cap' ∧ Hid (D = copyN zs d k) ∧ OwnsB 5 w1.heap.size wr ao' cap' D ∧ Below w1.heap.size w1 wr) (fun _ i _ => m - (intOf i).toNat)
  case atStart => exact ⟨0, zs, ao3, cap3, Nat.zero_le _, rfl, rfl, (rfl : zs = copyN zs d 0), ho3, hb3⟩
  case round =>
    clear ho3 hb3
    obtain ⟨k, D, ao', cap', hk, rfl, rfl, HD, ho, hb⟩ := hrel
    have hDl1 : D.length ≤ zs.length + k := by rw [HD.out, copyN_len]; omega
    have hDl2 : zs.length + k ≤ D.length := by rw [HD.out, copyN_len]; omega
    by_cases hlt : k < m
    · obtain ⟨j, hj⟩ : ∃ j : Nat, (D.length : Int) - (d : Int) = (j : Int) := ⟨D.length - d, by omega⟩
      have hjD : j < D.length := by omega
      obtain ⟨b, off, rfl, hcell⟩ := ho.mine.row.at hjD
      have hcj := hcell j hjD
      have hx : D.getD j 0 = (copyN zs d k).getD ((copyN zs d k).length - d) 0 := by rw [← HD.out]; congr 1; omega
      generalize hX : D.getD j 0 = x at *
      have HX' := hide1 hx
      have hball : Below wr.heap.size wr (wr.alloc (.cells #[.int .u8 x] 5)) := (Below.refl _ _).alloc (Nat.le_refl _) _
      have HO1 := hide1 (ho.below hball)
      have HR1 : Hid (Row (wr.alloc (.cells #[.int .u8 x] 5)) (some ⟨wr.heap.size, 0, none⟩) [x]) := by
        refine Row.of fun i hi => ?_
        have : i = 0 := by simpa using hi
        subst this
        simp [go_sem]
      have HB1' := hide1 (hb.alloc hb.size (.cells #[.int .u8 x] 5))
      have HO := hide1 ho
      have hbs := hb.size
      clear hcell hx hX hball ho hb
      go_wp2_with (at_builtin; refine wpList_append_row _ rfl _ _ 22 rfl w1.heap.size 5 i0 (.int .u8 0) 1 Try.underlying22 hi hz0 hz1 hz2 rfl (.slice (some ⟨b, off, none⟩) D.length cap') D.length (D.map (Value.int .u8)) rfl HO1.out (some ⟨wr.heap.size, 0, none⟩) 1 [x] rfl HR1.out (fun e => by cases e) (by unfold maxLen; simp; omega) (by simp; omega) (by simp; omega) ?_)
      intro v4 w4 hown hgrow hat
      have e1 : D.map (Value.int .u8) ++ [Value.int .u8 x] = (D ++ [x]).map (Value.int .u8) := by simp
      have e2 : D.length + 1 = (D ++ [x]).length := by simp
      rw [e1, e2] at hown
      obtain ⟨D2, hD2⟩ : ∃ D2, D ++ [x] = D2 := ⟨_, rfl⟩
      rw [hD2] at hown
      have HD2 : Hid (D2 = copyN zs d (k + 1)) := by show _ = _; rw [← hD2, HD.out, HX'.out]; rfl
      obtain ⟨ao4, cap4, e4, ho4⟩ := OwnsB.of hown
      rw [e4]
      have hb4 := HB1'.out.grown hgrow HB1'.out.size (by intro q e; rcases Nat.lt_or_ge q w1.heap.size with h | h; exact absurd e.symm (OwnsB.block HO.out h); exact h)
      clear hown hgrow hat e4 e1 e2 hD2 HO1 HR1 HB1' HO HX' hcj
      go_wp2_with fail
      go_roundw
      case rel => exact ⟨k + 1, D2, ao4, cap4, by omega, by go_num, rfl, HD2, ho4, hb4⟩
      case measure => simp [intOf]; omega
    · have hkm : k = m := by omega
      have hD4 : D.length ≤ 4194304 := by omega
      have HX3 := hide1 (HX1.out.below hb)
      have HW3 := hide1 (HW1.out.below hb)
      have HB3 := hide1 (HB1.out.trans (hb.mono HB1.out.size))
      have HO := hide1 ho
      obtain ⟨x0, x1⟩ := HX3.out.two
      have ho2 := ho.mine
      clear HX1 HW1 HB1 ho
      have hmc := ho2.fits
      have hmm := ho2.most
      unfold maxLen at hmm
      have hcn : ¬ cap' = zs.length := by omega
      have hsub : D.length - zs.length = m := by omega
      obtain ⟨ao2, hE, hsl2, hrow2⟩ := run_cut ao' D cap' zs.length (by omega) hmc
      rw [if_neg hcn] at hE
      have hdl : (D.drop zs.length).length = m := by rw [List.length_drop]; omega
      have HDD : Hid (D.drop zs.length = dataN zs d m) := by show _ = _; rw [HD.out, hkm]; rfl
      have HRW := hide1 (hrow2 wr ho2.row)
      generalize hE2 : D.drop zs.length = E at *
      have HA2 := hide1 ho2.arg
      clear hrow2 hE2 ho2
      have HDl := hide1 hdl
      have HWA := hide1 (((Below.refl wr.heap.size wr).alloc (Nat.le_refl _) (.cells #[] 5)).drew)
      have R1 := hide1 (HRW.out.below HWA.out)
      have N1 : Hid (ao2 = none → E.length = 0 ∧ cap' - zs.length = 0) := by
        intro e0
        have := HRW.out.none_len e0
        omega
      go_wp2_with fail
      go_region_held3 (fun w' => w'.cell? ⟨w.heap.size, 0, none⟩ = some (.int .i64 s) ∧ w'.cell? ⟨w.heap.size, 1, none⟩ = some (.slice ao zs.length cap))
        (first | (refine ⟨?_, ?_⟩ <;> with_reducible assumption) | (refine ⟨?_, ?_⟩ <;> (rw [World.cell?_setCell_other _ _ _ _ (by simp), World.cell?_setCell_other _ _ _ _ (by simp), World.cell?_setCell_other _ _ _ _ (by simp), World.cell?_setCell_other _ _ _ _ (by simp)]; with_reducible assumption)) | (go_keep; done))
        (first | (go_at_call 45; refine (l4Last_any s D ao' cap' w4 (HA2.out.below hb4) hs0 hs hD4).mono ?_; clear hown4 hgrow4 hat4; rintro e w5 ⟨ao5, cap5, rfl, ho5, hb5⟩; obtain ⟨_, _⟩ := ((HX3.out.below hb4).below hb5).two; obtain ⟨_, _, _, _, _, _, _, _⟩ := (HW3.out.below hb4).below hb5)
               | (refine step_append_row _ (by rfl) _ _ _ (by rfl) wr.heap.size 5 i0 (.int .u8 0) 1 Try.underlying22 hi hz0 hz1 hz2 rfl (.slice (some ⟨wr.heap.size, 0, none⟩) 0 0) 0 [] (by rfl) (ownw1 _ _ _ _ (by simp) (by simp)) ao2 (cap' - zs.length) E (by first | rfl | (rw [HDl.out]; rfl)) R1.out N1.out (by unfold maxLen; omega) (by omega) (by simp) ?_; intro v4 w4 hown4 hgrow4 hat4; obtain ⟨ao4, cap4, e4, ho4⟩ := OwnsB.of hown4; subst e4; have hb4 : Below wr.heap.size wr w4 := HWA.out.grown hgrow4 HWA.out.size (by intro k e; simp [Value.ownBlock] at e; omega); obtain ⟨_, _⟩ := (HX3.out.below hb4).two))
      have hb15 : Below wr.heap.size wr w5 := hb4.trans (hb5.mono hb4.size)
      obtain ⟨k3, k4⟩ := cpy_set (HW3.out.below hb15) true (.slice ao4 m cap4) (s : Int) (.slice ao5 (lastN s D).length cap5)
      have zw : w.heap.size + 1 < wr.heap.size := HW3.out.lt
      have M4 := (ho4.mine.below hb5).grown k4 (by intro k e; simp at e; subst e; exact ho4.mine.far (by omega))
      have M5 := ho5.mine.grown k4 (by intro k e; simp at e; subst e; exact ho5.mine.far (by have := hb4.size; omega))
      have hw5 := HB3.out.trans (hb15.mono HB3.out.size)
      have hw6 := hw5.grown k4 hw5.size (by intro k e; simp at e; omega)
      obtain ⟨y0, y1, y2, y3, _⟩ := k3
      have hz := HB3.out.size
      have hz4 := hb4.size
      have hap : ∀ k, blk ao4 = some k → blk ao5 ≠ some k := by
        intro k e1 e2
        have h1 := (blk_mine ho4.mine e1).2
        have h2 := (blk_mine ho5.mine e2).1
        omega
      have eD : lastN s D = lastN s (copyN zs d m) := by rw [HD.out, hkm]
      clear k4
      go_wp2_with fail
      refine bodyPost_ret (v := .agg #[.bool true, .slice ao4 m cap4, .int .i64 s, .slice ao5 (lastN s D).length cap5]) (by simp [results, Try.results10, go_sem, y0, y1, y2, y3]) rfl ⟨⟨ao4, cap4, ao5, cap5, ?_, ?_, ?_, hap⟩, hw6⟩
      · rw [dataN_len, eD]
      · rw [← HDD.out]; exact M4.mono (by omega)
      · rw [← eD]; exact M5.mono (by omega)

end Go.Proofs.Ytjknaigdlkpiaaa
