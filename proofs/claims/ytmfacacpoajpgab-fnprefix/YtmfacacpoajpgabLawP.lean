import Derived.Test.YtmfacacpoajpgabDrawO
import Derived.Test.YtmfacacpoajpgabHPM
import Derived.Test.YtmfacacpoajpgabHKL
import Derived.Test.YtmfacacpoajpgabLwAt
namespace Go.Proofs.Ytmfacacpoajpgab
open Go.RowKit
attribute [local go_sem ↓] Go.wp_at_zero Go.wp_at_succ
set_option linter.unusedVariables false

theorem field_next (a b c : Value) (W : World) : Sem.run Try.prog (Instr.field 59 (.agg #[a, b, c]) 0) W = .ok a W := by
  simp [Instr.field, go_sem, asAgg]
set_option maxRecDepth 100000 in
theorem law_prefix_big1 (ao bo : Option Addr) (n m cap cap' : Nat) (w : World) (hn : n ≤ 9223372036854775807) (hbig : 1048576 < n) :
    Calls Try.prog 7 #[.slice ao n cap, .slice bo m cap'] w fun e w' => e = .returned (.bool true) ∧ Below w.heap.size w w' := by
  go_enter Try.func7, Try.ntmps7
  go_wp2_with fail
  go_ret
  exact ⟨rfl, Below.refl _ _⟩
set_option maxRecDepth 100000 in
theorem law_prefix_big2 (ao bo : Option Addr) (n m cap cap' : Nat) (w : World) (hn : n ≤ 1048576) (hm : m ≤ 9223372036854775807) (hbig : 1048576 < m) :
    Calls Try.prog 7 #[.slice ao n cap, .slice bo m cap'] w fun e w' => e = .returned (.bool true) ∧ Below w.heap.size w w' := by
  go_enter Try.func7, Try.ntmps7
  go_wp2_with fail
  go_ret
  exact ⟨rfl, Below.refl _ _⟩
theorem Reads.below {w w' : World} {ao : Option Addr} {n : Nat} {F : Nat → Nat × Nat} (h : Reads w ao n F) (hb : Below w.heap.size w w') : Reads w' ao n F := fun h0 => by
  obtain ⟨g, e, hc⟩ := h h0
  exact ⟨g, e, hc.grown (grownBy_of_below hb none) (by simp)⟩
set_option maxRecDepth 100000 in
set_option maxHeartbeats 6400000 in
theorem law_prefix (ao bo : Option Addr) (cap cap' : Nat) (cs ms : List Int) (w : World) (hr : Row w ao cs) (ho : Octets cs) (hl : cs.length ≤ 1048576) (hm : Row w bo ms) (hmo : Octets ms) (hml : ms.length ≤ 1048576) :
    Calls Try.prog 7 #[.slice ao cs.length cap, .slice bo ms.length cap'] w fun e w' => e = .returned (.bool true) ∧ Below w.heap.size w w' := by
  have HDR := hideH (drawLens_any ao cap cs w hr ho hl)
  have HM := hideH hm
  have HMO := hideH hmo
  clear hr ho hm hmo
  go_enter Try.func7, Try.ntmps7
  go_wp2_with fail
  refine Calls.mono HDR.out ?_
  rintro e w1 ⟨⟨aL, cL, zs, rfl, hR1, hz⟩, hb1⟩
  have HK := hideH (skind_any aL cL zs w1 hR1 (by omega))
  clear HDR
  go_wp2_with fail
  refine Calls.mono HK.out ?_
  rintro e w2 ⟨rfl, q, e2⟩
  have hb2 : Below w1.heap.size w1 w2 := by rw [e2]; exact below_drewN' _ _ _
  have hR2 := hR1.below hb2
  have hB2 := hb1.trans (hb2.mono hb1.size)
  have HC := hideH (icodes_any aL cL zs w2 hR2 (by omega))
  clear HK e2 hb2 hR1 hb1
  go_wp2_with fail
  refine Calls.mono HC.out ?_
  rintro e w3 ⟨⟨aC, cC, rfl, hRC⟩, hb3⟩
  have hR3 := hR2.below hb3
  have hB3 := hB2.trans (hb3.mono hB2.size)
  have HC3 := hideH hRC.reads
  have HK := hideH (ikind_any aL cL zs w3 hR3 (by omega))
  clear HC hRC hb3 hR2 hB2
  go_wp2_with fail
  refine Calls.mono HK.out ?_
  rintro e w4 ⟨rfl, hb4⟩
  have HR4 := hideH (hR3.below hb4)
  have HB4 := hideH (hB3.trans (hb4.mono hB3.size))
  have HC4 := hideH (HC3.out.below hb4)
  clear HK hb4 hR3 hB3 HC3
  by_cases hk0 : hk zs = 0
  · have hn0 : nC zs = 0 := by rw [nC, okC_not (.inl hk0)]; rfl
    rw [hn0, hk0]
    clear hn0 hk0
    go_wp2_with fail
    go_ret
    exact ⟨rfl, HB4.out⟩
  · by_cases hk2 : hk zs = 2
    · have hn0 : nC zs = 0 := by rw [nC, okC_not (.inr hk2)]; rfl
      rw [hn0, hk2]
      clear hn0 hk2 hk0
      go_wp2_with fail
      go_ret
      exact ⟨rfl, HB4.out⟩
    · have hok := okC_of hk0 hk2
      have hnC : nC zs = zs.length := by rw [nC, hok]; rfl
      rw [hnC] at HC4 ⊢
      have HOK := hideH hok
      have HFULL : Hid (hk zs = 1 → SS zs 15 = 32768) := full_SS hok
      have HSS := hideH (okC_out hok)
      have hkb0 : (hk zs == 0) = false := by simp [hk0]
      have hkb2 : (hk zs == 2) = false := by simp [hk2]
      obtain ⟨KD, hKD⟩ : ∃ K, hk zs = K := ⟨_, rfl⟩
      rw [hKD] at hkb0 hkb2 HFULL ⊢
      clear hok hnC hk0 hk2 hKD
      go_wp2_with fail
      go_loop [8, 9] (fun v i => ∃ k J : Nat, k ≤ 6 ∧ i = .int .i64 k ∧ v = .int .u64 J ∧ Hid (J < 256 ^ k)) (fun _ i => 6 - (intOf i).toNat)
      case atStart => exact ⟨0, 0, by omega, rfl, rfl, Nat.one_pos⟩
      case round =>
        obtain ⟨k, J, hk6, rfl, rfl, HJ⟩ := hrel
        by_cases hlt : k < 6
        · have hJ5 : J < 256 ^ 5 := Nat.lt_of_lt_of_le HJ.out (Nat.pow_le_pow_right (by decide) (by omega))
          have HA := hideH (lwAt_any bo cap' ms k w4 (HM.out.below HB4.out) HMO.out (by omega))
          go_wp2_with fail
          refine Calls.mono HA.out ?_
          rintro e w5 ⟨⟨x, rfl, hx⟩, rfl⟩
          have HJ2 : Hid (256 * J + x < 256 ^ (k + 1)) := by
            show _ < _
            have := HJ.out
            rw [Nat.pow_succ]
            generalize 256 ^ k = P at *
            omega
          clear HA
          go_wp2_with fail
          exact ⟨⟨k + 1, 256 * J + x, by omega, by go_num, by go_num, HJ2⟩, by simp [intOf]; omega⟩
        · have hJ : J < 281474976710656 := Nat.lt_of_lt_of_le HJ.out (Nat.le_trans (Nat.pow_le_pow_right (by decide) hk6) (by decide))
          clear HJ
          go_upto_region 17 with fail
          go_cut [9, 10] from 15 to 58 (fun _ v wx => v = .int .i64 0 ∧ wx = w4)
          case first =>
            go_wp2_with fail
            go_meet
            exact ⟨rfl, rfl⟩
          case rest =>
          obtain ⟨rfl, hwc⟩ := hcut
          rw [hwc]
          clear hlt hk6 hwc
          go_wp2_with fail
          go_loopw [10] (fun i wr => ∃ s : Nat, s ≤ zs.length ∧ i = .int .i64 s ∧ Hid (Below w4.heap.size w4 wr)) (fun i _ => zs.length - (intOf i).toNat)
          case atStart => exact ⟨0, Nat.zero_le _, rfl, Below.refl _ _⟩
          case round =>
            obtain ⟨s, hs, rfl, HB⟩ := hrel
            by_cases hsl : s < zs.length
            · obtain ⟨g, rfl, hCd⟩ := (HC4.out.below HB.out) (by omega)
              obtain ⟨bL, oL, rfl, hcL⟩ := (HR4.out.below HB.out).at hsl
              have cL := hcL s hsl
              have c0 := hCd.at0 s hsl
              have c1 := hCd.at1 s hsl
              obtain ⟨X, hX⟩ : ∃ X, ln zs s = X := ⟨_, rfl⟩
              obtain ⟨Y, hY⟩ : ∃ Y, (code zs s).2 = Y := ⟨_, rfl⟩
              have hX1 : (code zs s).1 = X := by rw [code_ln, ← hX]; split <;> simp_all
              have hzs : zs.getD s 0 = (X : Int) := by
                have h1 := HSS.out.1 (zs.getD s 0) (by simp [List.getD, hsl])
                rw [← hX, ln]
                omega
              rw [hX1] at c0
              rw [hY] at c1
              rw [hzs] at cL
              have hX15 : X ≤ 15 := by
                by_cases h0 : ln zs s = 0
                · omega
                · have := (Coded.of HSS.out.1 hsl h0).most; omega
              have HX := hideH hX
              have HY := hideH hY
              have hba : Below wr.heap.size wr (wr.alloc (.cells #[.int .i64 X, .int .u64 Y] 56)) := (Below.refl _ _).alloc (Nat.le_refl _) _
              have HB5 := hideH (HB.out.trans (hba.mono HB.out.size))
              have cL5 := (hba.cell (p := ⟨bL, oL + s, none⟩) (World.block_lt_of_cell? wr _ cL)).trans cL
              have hgw := hCd.lt
              clear hcL hCd hX1 hzs hX hY hba
              go_upto_region 21 with fail
              have p0 : (wr.alloc (.cells #[.int .i64 X, .int .u64 Y] 56)).cell? ⟨wr.heap.size, 0, none⟩ = some (.int .i64 X) := by simp [go_sem]
              have p1 : (wr.alloc (.cells #[.int .i64 X, .int .u64 Y] 56)).cell? ⟨wr.heap.size, 1, none⟩ = some (.int .u64 Y) := by simp [go_sem]
              have hw5 : wr.heap.size < (wr.alloc (.cells #[.int .i64 X, .int .u64 Y] 56)).heap.size := by simp
              clear c0 c1 cL
              generalize wr.alloc (.cells #[.int .i64 X, .int .u64 Y] 56) = w5 at *
              go_quiet (fail)
              have p0' : (w5.drewN nq).cell? ⟨wr.heap.size, 0, none⟩ = some (.int .i64 X) := p0
              have p1' : (w5.drewN nq).cell? ⟨wr.heap.size, 1, none⟩ = some (.int .u64 Y) := p1
              have hw6 : wr.heap.size < (w5.drewN nq).heap.size := hw5
              have HB6 : Hid (Below w4.heap.size w4 (w5.drewN nq)) := HB5.out.trans (below_drewN' _ _ _)
              clear p0 p1 hw5 HB5 cL5 hgw HB
              generalize w5.drewN nq = w6 at *
              generalize wr.heap.size = Q at *
              by_cases hX0 : X = 0
              · have hXb : decide ((0 : Int) < (X : Int)) = false := decide_eq_false (by omega)
                subst hX0
                go_wp2_with fail
                exact ⟨⟨s + 1, by omega, by go_num, HB6⟩, by simp [intOf]; omega⟩
              · have hXp : (0 : Int) < (X : Int) := by omega
                have HCD := hideH (Coded.of HSS.out.1 hsl (by rw [HX.out]; exact hX0))
                have HYC : Hid (Y = cb zs s) := by show _ = _; rw [← HY.out, code_cb (by rw [HX.out]; exact hX0)]
                clear HY
                go_upto_region 24 with fail
                go_cut [12] from 58 to 78 (fun v wx => v = .int .i64 0 ∧ wx = w6)
                case first =>
                  go_wp2_with fail
                  go_meet
                  exact ⟨rfl, rfl⟩
                case rest =>
                obtain ⟨rfl, hwc⟩ := hcut
                rw [hwc]
                clear hwc
                go_wp2_with fail
                go_loopw [12] (fun t wx => ∃ j : Nat, j ≤ s ∧ t = .int .i64 j ∧ Hid (Below w6.heap.size w6 wx)) (fun t _ => s - (intOf t).toNat)
                case atStart => exact ⟨0, Nat.zero_le _, rfl, Below.refl _ _⟩
                case round =>
                  obtain ⟨j, hj, rfl, HBx⟩ := hrel
                  by_cases hjs : j < s
                  · obtain ⟨g', e', hCd⟩ := ((HC4.out.below HB6.out).below HBx.out) (by omega)
                    simp only [Option.some.injEq, Addr.mk.injEq, and_true] at e'
                    subst e'
                    have d0 := hCd.at0 j (by omega)
                    have d1 := hCd.at1 j (by omega)
                    obtain ⟨X', hX'⟩ : ∃ X, ln zs j = X := ⟨_, rfl⟩
                    obtain ⟨Y', hY'⟩ : ∃ Y, (code zs j).2 = Y := ⟨_, rfl⟩
                    have hX1 : (code zs j).1 = X' := by rw [code_ln, ← hX']; split <;> simp_all
                    rw [hX1] at d0
                    rw [hY'] at d1
                    have hX15' : X' ≤ 15 := by
                      by_cases h0 : ln zs j = 0
                      · omega
                      · have := (Coded.of HSS.out.1 (by omega) h0).most; omega
                    have q0 := (HBx.out.cell (p := ⟨Q, 0, none⟩) hw6).trans p0'
                    have q1 := (HBx.out.cell (p := ⟨Q, 1, none⟩) hw6).trans p1'
                    have hQw : Q < wr.heap.size := Nat.lt_of_lt_of_le hw6 HBx.out.size
                    have hba : Below wr.heap.size wr (wr.alloc (.cells #[.int .i64 X', .int .u64 Y'] 56)) := (Below.refl _ _).alloc (Nat.le_refl _) _
                    have HB7 := hideH (HBx.out.trans (hba.mono HBx.out.size))
                    have r0 := (hba.cell (p := ⟨Q, 0, none⟩) hQw).trans q0
                    have r1 := (hba.cell (p := ⟨Q, 1, none⟩) hQw).trans q1
                    have HX' := hideH hX'
                    have HY' := hideH hY'
                    have hgw := hCd.lt
                    clear hCd hX1 hX' hY' hba HBx
                    go_upto_region 28 with fail
                    have t0 : (wr.alloc (.cells #[.int .i64 X', .int .u64 Y'] 56)).cell? ⟨wr.heap.size, 0, none⟩ = some (.int .i64 X') := by simp [go_sem]
                    have t1 : (wr.alloc (.cells #[.int .i64 X', .int .u64 Y'] 56)).cell? ⟨wr.heap.size, 1, none⟩ = some (.int .u64 Y') := by simp [go_sem]
                    have hw7 : wr.heap.size < (wr.alloc (.cells #[.int .i64 X', .int .u64 Y'] 56)).heap.size := by simp
                    clear d0 d1 q0 q1
                    generalize wr.alloc (.cells #[.int .i64 X', .int .u64 Y'] 56) = w7 at *
                    generalize wr.heap.size = R at *
                    by_cases hX0' : X' = 0
                    · subst hX0'
                      have HJS := hideH hjs
                      go_quiet (fail)
                      go_wp2_with fail
                      exact ⟨⟨j + 1, HJS.out, by go_num, HB7.out.trans (below_drewN' _ _ _)⟩, by have := HJS.out; simp [intOf]; omega⟩
                    · have n0 : decide (0 < X') = true := decide_eq_true (by omega)
                      have n0i : decide ((0 : Int) < (X' : Int)) = true := decide_eq_true (by omega)
                      have HCJ := Coded.of HSS.out.1 (show j < zs.length by omega) (by rw [HX'.out]; exact hX0')
                      have hYJ : Y' = cb zs j := by rw [← HY'.out, code_cb (by rw [HX'.out]; exact hX0')]
                      obtain ⟨P', hP'⟩ : ∃ P, 2 ^ X' = P := ⟨_, rfl⟩
                      obtain ⟨P, hP⟩ : ∃ P, 2 ^ X = P := ⟨_, rfl⟩
                      have hne1 : Y % P' ≠ Y' := by
                        rw [HYC.out, hYJ, ← hP', ← HX'.out]
                        exact no_begin HSS.out.2.2 HCD.out HCJ (by omega)
                      have hne2 : Y' % P ≠ Y := by
                        rw [HYC.out, hYJ, ← hP, ← HX.out]
                        exact no_begin HSS.out.2.2 HCJ HCD.out (by omega)
                      have hPb : P ≤ 32768 ∧ 0 < P := by rw [← hP]; exact ⟨Nat.pow_le_pow_right (show 0 < 2 by decide) hX15, Nat.pos_of_ne_zero (by simp)⟩
                      have hPb' : P' ≤ 32768 ∧ 0 < P' := by rw [← hP']; exact ⟨Nat.pow_le_pow_right (show 0 < 2 by decide) hX15', Nat.pos_of_ne_zero (by simp)⟩
                      have wX : IntKind.u64.wrap (X : Int) = (X : Int) := by rw [IntKind.wrap_u64]; omega
                      have wX' : IntKind.u64.wrap (X' : Int) = (X' : Int) := by rw [IntKind.wrap_u64]; omega
                      have mX : min X 64 = X := by omega
                      have mX' : min X' 64 = X' := by omega
                      have wP : IntKind.u64.wrap (2 ^ X) = (P : Int) := by
                        rw [show ((2 : Int) ^ X) = ((2 ^ X : Nat) : Int) from (Int.natCast_pow 2 X).symm, hP, IntKind.wrap_u64]; omega
                      have wP' : IntKind.u64.wrap (2 ^ X') = (P' : Int) := by
                        rw [show ((2 : Int) ^ X') = ((2 ^ X' : Nat) : Int) from (Int.natCast_pow 2 X').symm, hP', IntKind.wrap_u64]; omega
                      have zP : ((P : Int) == 0) = false := by rw [beq_eq_false_iff_ne]; omega
                      have zP' : ((P' : Int) == 0) = false := by rw [beq_eq_false_iff_ne]; omega
                      have yP : ¬ P = 0 := by omega
                      have yP' : ¬ P' = 0 := by omega
                      have xP : 0 < P := by omega
                      have xP' : 0 < P' := by omega
                      obtain ⟨Z, hZ⟩ : ∃ Z, Y % P' = Z := ⟨_, rfl⟩
                      obtain ⟨Z', hZ'⟩ : ∃ Z, Y' % P = Z := ⟨_, rfl⟩
                      have eZ : (Y : Int) % (P' : Int) = (Z : Int) := by rw [← hZ]; exact (Int.natCast_emod Y P').symm
                      have eZ' : (Y' : Int) % (P : Int) = (Z' : Int) := by rw [← hZ']; exact (Int.natCast_emod Y' P).symm
                      have tZ : (Y : Int).tmod (P' : Int) = (Z : Int) := by rw [Int.tmod_eq_emod_of_nonneg (by omega)]; exact eZ
                      have tZ' : (Y' : Int).tmod (P : Int) = (Z' : Int) := by rw [Int.tmod_eq_emod_of_nonneg (by omega)]; exact eZ'
                      have bZ : ((Z : Int) == (Y' : Int)) = false := by rw [beq_eq_false_iff_ne]; omega
                      have bZ' : ((Z' : Int) == (Y : Int)) = false := by rw [beq_eq_false_iff_ne]; omega
                      clear hne1 hne2 hP hP' hZ hZ' hYJ HCJ hPb hPb'
                      have HJS := hideH hjs
                      have hj2 : j < 1000 := by omega
                      clear hl hml hz hJ hs hsl hX0 hXp hj hw6 hQw hgw hw7 hX15 hX15' hX0' p0' p1' hjs
                      by_cases hlt1 : X' < X
                      · skip
                        have n1 : decide (X' ≤ X) = true := decide_eq_true (by omega)
                        have n1i : decide ((X' : Int) ≤ (X : Int)) = true := decide_eq_true (by omega)
                        have n2 : decide (X ≤ X') = false := decide_eq_false (by omega)
                        have n2i : decide ((X : Int) ≤ (X' : Int)) = false := decide_eq_false (by omega)
                        go_quiet (fail)
                        go_wp2_with fail
                        exact ⟨⟨j + 1, HJS.out, by go_num, HB7.out.trans (below_drewN' _ _ _)⟩, by have := HJS.out; simp [intOf]; omega⟩
                      · by_cases hlt2 : X < X'
                        · skip
                          have n1 : decide (X' ≤ X) = false := decide_eq_false (by omega)
                          have n1i : decide ((X' : Int) ≤ (X : Int)) = false := decide_eq_false (by omega)
                          have n2 : decide (X ≤ X') = true := decide_eq_true (by omega)
                          have n2i : decide ((X : Int) ≤ (X' : Int)) = true := decide_eq_true (by omega)
                          go_quiet (fail)
                          go_wp2_with fail
                          exact ⟨⟨j + 1, HJS.out, by go_num, HB7.out.trans (below_drewN' _ _ _)⟩, by have := HJS.out; simp [intOf]; omega⟩
                        · have hXX : X' = X := by omega
                          have n1 : decide (X' ≤ X) = true := decide_eq_true (by omega)
                          have n1i : decide ((X' : Int) ≤ (X : Int)) = true := decide_eq_true (by omega)
                          have n2 : decide (X ≤ X') = true := decide_eq_true (by omega)
                          have n2i : decide ((X : Int) ≤ (X' : Int)) = true := decide_eq_true (by omega)
                          clear hXX
                          go_quiet (fail)
                          go_wp2_with fail
                          exact ⟨⟨j + 1, HJS.out, by go_num, HB7.out.trans (below_drewN' _ _ _)⟩, by have := HJS.out; simp [intOf]; omega⟩
                  · have hjs2 : j = s := by omega
                    subst hjs2
                    have q0 := (HBx.out.cell (p := ⟨Q, 0, none⟩) hw6).trans p0'
                    have q1 := (HBx.out.cell (p := ⟨Q, 1, none⟩) hw6).trans p1'
                    have hQw : Q < wr.heap.size := Nat.lt_of_lt_of_le hw6 HBx.out.size
                    have HBt := hideH (HB6.out.trans (HBx.out.mono HB6.out.size))
                    have HRt := hideH (HR4.out.below HBt.out)
                    have hYl : Y < 2 ^ X := by rw [HYC.out, ← HX.out]; exact cb_lt zs j
                    obtain ⟨P, hP⟩ : ∃ P, 2 ^ X = P := ⟨_, rfl⟩
                    rw [hP] at hYl
                    have hPb : P ≤ 32768 := by rw [← hP]; exact Nat.pow_le_pow_right (show 0 < 2 by decide) hX15
                    obtain ⟨T, hT⟩ : ∃ T, J * P = T := ⟨_, rfl⟩
                    have hTb : T < 9223372036854775808 := by
                      rw [← hT]
                      have : J * P ≤ J * 32768 := Nat.mul_le_mul_left J hPb
                      omega
                    have wX : IntKind.u64.wrap (X : Int) = (X : Int) := by rw [IntKind.wrap_u64]; omega
                    have mX : min X 64 = X := by omega
                    have wT : IntKind.u64.wrap ((J : Int) * 2 ^ X) = (T : Int) := by
                      rw [show ((2 : Int) ^ X) = ((2 ^ X : Nat) : Int) from (Int.natCast_pow 2 X).symm, hP, ← Int.natCast_mul, hT, IntKind.wrap_u64]; omega
                    have wV : IntKind.u64.wrap ((Y : Int) + (T : Int)) = ((Y + T : Nat) : Int) := by rw [IntKind.wrap_u64]; omega
                    have HN1 := hideH (inext_any (some ⟨bL, oL, none⟩) cL zs (Y + T) ((60 : Nat) : Int) wr HRt.out (by omega) (by omega) (by decide) (by decide))
                    have HSELF : Hid (∀ k s' l : Nat, AnsN zs (Y + T) ((60 : Nat) : Int) k s' l → k = 1 ∧ s' = j ∧ l = X) := fun k s' l ha => by
                      have h1 := AnsN.ans HOK.out (by decide) ha
                      rw [← hT, ← hP, HYC.out, ← HX.out] at h1
                      rw [← HX.out]
                      exact read_self HSS.out.2.2 HCD.out J h1
                    obtain ⟨X1, hX1⟩ : ∃ X1, X - 1 = X1 := ⟨_, rfl⟩
                    have hX1i : (X : Int) - 1 = (X1 : Int) := by omega
                    have HSHORT : Hid (∀ k s' l : Nat, AnsN zs Y (X1 : Int) k s' l → k = 2) := fun k s' l ha => by
                      have h1 := AnsN.ans HOK.out (by omega) ha
                      rw [← hX1, HYC.out, ← HX.out] at h1
                      exact read_short HSS.out.2.2 HCD.out h1
                    have hYb : Y < 2 ^ 64 := by omega
                    have HN2 := hideH (fun W (h : Row64 W (some ⟨bL, oL, none⟩) zs) => inext_any (some ⟨bL, oL, none⟩) cL zs Y (X1 : Int) W h (by omega) hYb (by omega) (by omega))
                    have hXX1 : X1 ≤ 14 := by omega
                    have hj2 : j < 1000 := by omega
                    have HJS := hideH hsl
                    clear hX1 hT hP hPb hTb hYl hYb hl hml hz hJ hs hsl hX0 hXp hj hw6 p0' p1' hjs HBx HB6
                    go_wp2_with fail
                    refine Calls.mono HN1.out ?_
                    rintro e w8 ⟨⟨k8, s8, l8, rfl, ha8⟩, hb8⟩
                    obtain ⟨rfl, rfl, rfl⟩ := HSELF.out _ _ _ ha8
                    have c80 := (hb8.cell (p := ⟨Q, 0, none⟩) hQw).trans q0
                    have c81 := (hb8.cell (p := ⟨Q, 1, none⟩) hQw).trans q1
                    have hQ8 : Q < w8.heap.size := Nat.lt_of_lt_of_le hQw hb8.size
                    have HB8 := hideH (HBt.out.trans (hb8.mono HBt.out.size))
                    have hba : Below w8.heap.size w8 (w8.alloc (.cells #[.int .i64 1, .int .i64 s8, .int .i64 l8] 59)) := (Below.refl _ _).alloc (Nat.le_refl _) _
                    have HB9 := hideH (HB8.out.trans (hba.mono HB8.out.size))
                    have c90 := (hba.cell (p := ⟨Q, 0, none⟩) hQ8).trans c80
                    have c91 := (hba.cell (p := ⟨Q, 1, none⟩) hQ8).trans c81
                    obtain ⟨x0, x1, x2, _⟩ := res3_new w8 1 (s8 : Int) (l8 : Int) 59
                    have HN3 := hideH (HN2.out _ (HR4.out.below HB9.out))
                    clear ha8 hb8 HN1 HN2 HSELF q0 q1 hba c80 c81 HBt HRt
                    go_wp2_with fail
                    refine Calls.mono HN3.out ?_
                    rintro e w10 ⟨⟨k10, s10, l10, rfl, ha10⟩, hb10⟩
                    obtain rfl := HSHORT.out _ _ _ ha10
                    have HB10 := hideH (HB9.out.trans (hb10.mono HB9.out.size))
                    clear ha10 hb10 HN3 HSHORT HB9 c90 c91 x0 x1 x2 HB8
                    go_wp2_with fail
                    rw [field_next]
                    go_wp2_with fail
                    exact ⟨⟨s8 + 1, HJS.out, by go_num, HB10⟩, by have := HJS.out; simp [intOf]; omega⟩
            · have HRt := hideH (HR4.out.below HB.out)
              have HBt := hideH (HB4.out.trans (HB.out.mono HB4.out.size))
              by_cases hK1 : KD = 1
              · have HN1 := hideH (inext_any aL cL zs J ((40 : Nat) : Int) wr HRt.out (by omega) (by omega) (by decide) (by decide))
                have HANY : Hid (∀ k s' l : Nat, AnsN zs J ((40 : Nat) : Int) k s' l → k = 1) := fun k s' l ha => read_any (HFULL.out hK1) J 40 (by decide) (AnsN.ans HOK.out (by decide) ha)
                subst hK1
                go_wp2_with fail
                refine Calls.mono HN1.out ?_
                rintro e w8 ⟨⟨k8, s8, l8, rfl, ha8⟩, hb8⟩
                obtain rfl := HANY.out _ _ _ ha8
                have HB8 := hideH (HBt.out.trans (hb8.mono HBt.out.size))
                clear ha8 hb8 HN1 HANY HBt HRt
                go_wp2_with fail
                rw [field_next]
                go_wp2_with fail
                go_ret
                exact ⟨rfl, HB8.out⟩
              · have hKb : (KD == 1) = false := by simp [hK1]
                have hKn : (KD != 1) = true := by simp [hK1]
                go_wp2_with fail
                go_ret
                exact ⟨rfl, HBt.out⟩
end Go.Proofs.Ytmfacacpoajpgab
