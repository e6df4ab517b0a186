import Derived.Test.YtmfacacpoajpgadVMb
namespace Go.Proofs.Ytmfacacpoajpgad
open Go.RowKit
attribute [local go_sem ↓] Go.wp_at_zero Go.wp_at_succ
set_option linter.unusedVariables false

theorem vmn_head (f mt xf os sz : Int) : vmn f mt xf os sz = (wi f 31 && wi mt 4294967295 && wi xf 255 && wi os 255 && wi sz 100000) := rfl
set_option maxRecDepth 100000 in
set_option maxHeartbeats 6400000 in
theorem svm_any (f mt xf os sz : Int) (ae an ac : Option Addr) (ce cn cc : Nat) (ze zn zc : List Int) (w : World) (he : Row w ae ze) (hn : Row w an zn) (hc : Row w ac zc) (le : ze.length ≤ 1048576) (ln : zn.length ≤ 1048576) (lc : zc.length ≤ 1048576) :
    Calls Try.prog 15 #[.agg #[.int .i64 f, .int .i64 mt, .int .i64 xf, .int .i64 os, .slice ae ze.length ce, .slice an zn.length cn, .slice ac zc.length cc, .int .i64 sz]] w fun e w' => e = .returned (.bool (vmem f mt xf os sz ze zn zc)) ∧ Below w.heap.size w w' := by
  have H0 := hideV (mb_new w f mt xf os sz (.slice ae ze.length ce) (.slice an zn.length cn) (.slice ac zc.length cc) 40)
  have L0 : Hid (Below w.heap.size w (w.alloc (.cells #[.int .i64 f, .int .i64 mt, .int .i64 xf, .int .i64 os, .slice ae ze.length ce, .slice an zn.length cn, .slice ac zc.length cc, .int .i64 sz] 40))) := (Below.refl _ _).alloc (Nat.le_refl _) _
  have HN := hideV hn
  have HC := hideV hc
  clear he hn hc
  have HR : Hid (vmem f mt xf os sz ze zn zc = (vmn f mt xf os sz && vmf f ze.length zn.length zc.length && vmt zn zc && vmr ze.length zn.length zc.length)) := rfl
  generalize vmem f mt xf os sz ze zn zc = R at *
  obtain ⟨b1, hb1⟩ : ∃ b1, (wi f 31 && wi mt 4294967295 && wi xf 255 && wi os 255) = b1 := ⟨_, rfl⟩
  have HB1 := hideV hb1
  clear hb1
  go_enter Try.func15, Try.ntmps15
  go_upto_region 1 with fail
  go_cut [40] from 3 to 115 (fun v wx => v = .bool (!b1) ∧ wx = w.alloc (.cells #[.int .i64 f, .int .i64 mt, .int .i64 xf, .int .i64 os, .slice ae ze.length ce, .slice an zn.length cn, .slice ac zc.length cc, .int .i64 sz] 40))
  case first =>
    by_cases p0 : f < 0
    · have k0 : wi f 31 = false := decide_eq_false (by omega)
      have HX : Hid (true = !b1) := by show _ = _; rw [← HB1.out]; simp [k0]
      clear HB1
      go_wp2_with fail
      go_meet
      exact ⟨congrArg Value.bool HX.out, rfl⟩
    · have pd0 : decide (f < 0) = false := decide_eq_false p0
      by_cases q0 : 31 < f
      · have k0 : wi f 31 = false := decide_eq_false (by omega)
        have qd0 : decide (31 < f) = true := decide_eq_true q0
        have HX : Hid (true = !b1) := by show _ = _; rw [← HB1.out]; simp [k0]
        clear HB1
        go_wp2_with fail
        go_meet
        exact ⟨congrArg Value.bool HX.out, rfl⟩
      · have k0 : wi f 31 = true := decide_eq_true (by omega)
        have qd0 : decide (31 < f) = false := decide_eq_false q0
        by_cases p1 : mt < 0
        · have k1 : wi mt 4294967295 = false := decide_eq_false (by omega)
          have HX : Hid (true = !b1) := by show _ = _; rw [← HB1.out]; simp [k0, k1]
          clear HB1
          go_wp2_with fail
          go_meet
          exact ⟨congrArg Value.bool HX.out, rfl⟩
        · have pd1 : decide (mt < 0) = false := decide_eq_false p1
          by_cases q1 : 4294967295 < mt
          · have k1 : wi mt 4294967295 = false := decide_eq_false (by omega)
            have qd1 : decide (4294967295 < mt) = true := decide_eq_true q1
            have HX : Hid (true = !b1) := by show _ = _; rw [← HB1.out]; simp [k0, k1]
            clear HB1
            go_wp2_with fail
            go_meet
            exact ⟨congrArg Value.bool HX.out, rfl⟩
          · have k1 : wi mt 4294967295 = true := decide_eq_true (by omega)
            have qd1 : decide (4294967295 < mt) = false := decide_eq_false q1
            by_cases p2 : xf < 0
            · have k2 : wi xf 255 = false := decide_eq_false (by omega)
              have HX : Hid (true = !b1) := by show _ = _; rw [← HB1.out]; simp [k0, k1, k2]
              clear HB1
              go_wp2_with fail
              go_meet
              exact ⟨congrArg Value.bool HX.out, rfl⟩
            · have pd2 : decide (xf < 0) = false := decide_eq_false p2
              by_cases q2 : 255 < xf
              · have k2 : wi xf 255 = false := decide_eq_false (by omega)
                have qd2 : decide (255 < xf) = true := decide_eq_true q2
                have HX : Hid (true = !b1) := by show _ = _; rw [← HB1.out]; simp [k0, k1, k2]
                clear HB1
                go_wp2_with fail
                go_meet
                exact ⟨congrArg Value.bool HX.out, rfl⟩
              · have k2 : wi xf 255 = true := decide_eq_true (by omega)
                have qd2 : decide (255 < xf) = false := decide_eq_false q2
                by_cases p3 : os < 0
                · have k3 : wi os 255 = false := decide_eq_false (by omega)
                  have HX : Hid (true = !b1) := by show _ = _; rw [← HB1.out]; simp [k0, k1, k2, k3]
                  clear HB1
                  go_wp2_with fail
                  go_meet
                  exact ⟨congrArg Value.bool HX.out, rfl⟩
                · have pd3 : decide (os < 0) = false := decide_eq_false p3
                  by_cases q3 : 255 < os
                  · have k3 : wi os 255 = false := decide_eq_false (by omega)
                    have qd3 : decide (255 < os) = true := decide_eq_true q3
                    have HX : Hid (true = !b1) := by show _ = _; rw [← HB1.out]; simp [k0, k1, k2, k3]
                    clear HB1
                    go_wp2_with fail
                    go_meet
                    exact ⟨congrArg Value.bool HX.out, rfl⟩
                  · have k3 : wi os 255 = true := decide_eq_true (by omega)
                    have qd3 : decide (255 < os) = false := decide_eq_false q3
                    have HX : Hid (false = !b1) := by show _ = _; rw [← HB1.out]; simp [k0, k1, k2, k3]
                    clear HB1
                    go_wp2_with fail
                    go_meet
                    exact ⟨congrArg Value.bool HX.out, rfl⟩
  case rest =>
    obtain ⟨rfl, rfl⟩ := hcut
    cases b1 with
    | false =>
      have HX : Hid (false = R) := by
        show _ = _
        rw [HR.out, vmn_head, HB1.out]; simp
      clear HR HB1
      go_wp2_with fail
      go_ret
      exact ⟨retb HX.out, L0.out⟩
    | true =>
      have hwi := HB1.out
      simp only [Bool.and_eq_true] at hwi
      obtain ⟨⟨⟨k0, k1⟩, k2⟩, k3⟩ := hwi
      have f0 : 0 ≤ f := (of_decide_eq_true k0).1
      have f1 : f ≤ 31 := (of_decide_eq_true k0).2
      have HV : Hid (vmn f mt xf os sz = wi sz 100000) := by show _ = _; rw [vmn_head, k0, k1, k2, k3]; rfl
      clear k0 k1 k2 k3 HB1
      generalize w.alloc (.cells #[.int .i64 f, .int .i64 mt, .int .i64 xf, .int .i64 os, .slice ae ze.length ce, .slice an zn.length cn, .slice ac zc.length cc, .int .i64 sz] 40) = W1 at *
      obtain ⟨c0, c1, c2, c3, c4, c5, c6, c7⟩ := H0.out
      have hpw := H0.out.lt
      have g4 := hfl_4 f f0 f1
      have g8 := hfl_8 f f0 f1
      have g16 := hfl_16 f f0 f1
      obtain ⟨n, rfl⟩ : ∃ n : Nat, f = n := ⟨f.toNat, by omega⟩
      obtain ⟨b2, hb2⟩ : ∃ b2, vmf (n : Int) ze.length zn.length zc.length = b2 := ⟨_, rfl⟩
      have HB2 := hideV hb2
      clear hb2
      have HG4 := hideV g4
      have HG8 := hideV g8
      have HG16 := hideV g16
      clear g4 g8 g16
      go_upto_region 3 with fail
      go_cut [77] from 3 to 115 (fun v wx => v = .bool (!b2) ∧ wx = W1)
      case first =>
        rcases (show (n : Int) / 4 % 2 = 0 ∨ (n : Int) / 4 % 2 = 1 from by omega) with j0 | j0
        · by_cases l0 : ze.length = 0
          · have m0 : mhv (n : Int) 4 ze.length = true := by rw [mhv, l0]; simp
            have li0 : ¬ (0 : Int) < ze.length := by omega
            have lj0 : decide (0 < ze.length) = false := decide_eq_false (by omega)
            have lk0 : decide ((0 : Int) < ze.length) = false := decide_eq_false li0
            clear l0
            rcases (show (n : Int) / 8 % 2 = 0 ∨ (n : Int) / 8 % 2 = 1 from by omega) with j1 | j1
            · by_cases l1 : zn.length = 0
              · have m1 : mhv (n : Int) 8 zn.length = true := by rw [mhv, l1]; simp
                have li1 : ¬ (0 : Int) < zn.length := by omega
                have lj1 : decide (0 < zn.length) = false := decide_eq_false (by omega)
                have lk1 : decide ((0 : Int) < zn.length) = false := decide_eq_false li1
                clear l1
                rcases (show (n : Int) / 16 % 2 = 0 ∨ (n : Int) / 16 % 2 = 1 from by omega) with j2 | j2
                · by_cases l2 : zc.length = 0
                  · have m2 : mhv (n : Int) 16 zc.length = true := by rw [mhv, l2]; simp
                    have li2 : ¬ (0 : Int) < zc.length := by omega
                    have lj2 : decide (0 < zc.length) = false := decide_eq_false (by omega)
                    have lk2 : decide ((0 : Int) < zc.length) = false := decide_eq_false li2
                    clear l2
                    have HX : Hid (false = !b2) := by show _ = _; rw [← HB2.out]; simp [vmf, m0, m1, m2]
                    clear HB2
                    go_wp2_with fail
                    go_meet
                    exact ⟨congrArg Value.bool HX.out, rfl⟩
                  · have m2 : mhv (n : Int) 16 zc.length = false := by rw [mhv, HG16.out, j2]; simp [l2]
                    have li2 : (0 : Int) < zc.length := by omega
                    have lj2 : decide (0 < zc.length) = true := decide_eq_true (by omega)
                    clear l2
                    have HX : Hid (true = !b2) := by show _ = _; rw [← HB2.out]; simp [vmf, m0, m1, m2]
                    clear HB2
                    go_wp2_with fail
                    go_meet
                    exact ⟨congrArg Value.bool HX.out, rfl⟩
                · have m2 : mhv (n : Int) 16 zc.length = true := by rw [mhv, HG16.out, j2]; simp
                  have HX : Hid (false = !b2) := by show _ = _; rw [← HB2.out]; simp [vmf, m0, m1, m2]
                  clear HB2
                  go_wp2_with fail
                  go_meet
                  exact ⟨congrArg Value.bool HX.out, rfl⟩
              · have m1 : mhv (n : Int) 8 zn.length = false := by rw [mhv, HG8.out, j1]; simp [l1]
                have li1 : (0 : Int) < zn.length := by omega
                have lj1 : decide (0 < zn.length) = true := decide_eq_true (by omega)
                clear l1
                have HX : Hid (true = !b2) := by show _ = _; rw [← HB2.out]; simp [vmf, m0, m1]
                clear HB2
                go_wp2_with fail
                go_meet
                exact ⟨congrArg Value.bool HX.out, rfl⟩
            · have m1 : mhv (n : Int) 8 zn.length = true := by rw [mhv, HG8.out, j1]; simp
              rcases (show (n : Int) / 16 % 2 = 0 ∨ (n : Int) / 16 % 2 = 1 from by omega) with j2 | j2
              · by_cases l2 : zc.length = 0
                · have m2 : mhv (n : Int) 16 zc.length = true := by rw [mhv, l2]; simp
                  have li2 : ¬ (0 : Int) < zc.length := by omega
                  have lj2 : decide (0 < zc.length) = false := decide_eq_false (by omega)
                  have lk2 : decide ((0 : Int) < zc.length) = false := decide_eq_false li2
                  clear l2
                  have HX : Hid (false = !b2) := by show _ = _; rw [← HB2.out]; simp [vmf, m0, m1, m2]
                  clear HB2
                  go_wp2_with fail
                  go_meet
                  exact ⟨congrArg Value.bool HX.out, rfl⟩
                · have m2 : mhv (n : Int) 16 zc.length = false := by rw [mhv, HG16.out, j2]; simp [l2]
                  have li2 : (0 : Int) < zc.length := by omega
                  have lj2 : decide (0 < zc.length) = true := decide_eq_true (by omega)
                  clear l2
                  have HX : Hid (true = !b2) := by show _ = _; rw [← HB2.out]; simp [vmf, m0, m1, m2]
                  clear HB2
                  go_wp2_with fail
                  go_meet
                  exact ⟨congrArg Value.bool HX.out, rfl⟩
              · have m2 : mhv (n : Int) 16 zc.length = true := by rw [mhv, HG16.out, j2]; simp
                have HX : Hid (false = !b2) := by show _ = _; rw [← HB2.out]; simp [vmf, m0, m1, m2]
                clear HB2
                go_wp2_with fail
                go_meet
                exact ⟨congrArg Value.bool HX.out, rfl⟩
          · have m0 : mhv (n : Int) 4 ze.length = false := by rw [mhv, HG4.out, j0]; simp [l0]
            have li0 : (0 : Int) < ze.length := by omega
            have lj0 : decide (0 < ze.length) = true := decide_eq_true (by omega)
            clear l0
            have HX : Hid (true = !b2) := by show _ = _; rw [← HB2.out]; simp [vmf, m0]
            clear HB2
            go_wp2_with fail
            go_meet
            exact ⟨congrArg Value.bool HX.out, rfl⟩
        · have m0 : mhv (n : Int) 4 ze.length = true := by rw [mhv, HG4.out, j0]; simp
          rcases (show (n : Int) / 8 % 2 = 0 ∨ (n : Int) / 8 % 2 = 1 from by omega) with j1 | j1
          · by_cases l1 : zn.length = 0
            · have m1 : mhv (n : Int) 8 zn.length = true := by rw [mhv, l1]; simp
              have li1 : ¬ (0 : Int) < zn.length := by omega
              have lj1 : decide (0 < zn.length) = false := decide_eq_false (by omega)
              have lk1 : decide ((0 : Int) < zn.length) = false := decide_eq_false li1
              clear l1
              rcases (show (n : Int) / 16 % 2 = 0 ∨ (n : Int) / 16 % 2 = 1 from by omega) with j2 | j2
              · by_cases l2 : zc.length = 0
                · have m2 : mhv (n : Int) 16 zc.length = true := by rw [mhv, l2]; simp
                  have li2 : ¬ (0 : Int) < zc.length := by omega
                  have lj2 : decide (0 < zc.length) = false := decide_eq_false (by omega)
                  have lk2 : decide ((0 : Int) < zc.length) = false := decide_eq_false li2
                  clear l2
                  have HX : Hid (false = !b2) := by show _ = _; rw [← HB2.out]; simp [vmf, m0, m1, m2]
                  clear HB2
                  go_wp2_with fail
                  go_meet
                  exact ⟨congrArg Value.bool HX.out, rfl⟩
                · have m2 : mhv (n : Int) 16 zc.length = false := by rw [mhv, HG16.out, j2]; simp [l2]
                  have li2 : (0 : Int) < zc.length := by omega
                  have lj2 : decide (0 < zc.length) = true := decide_eq_true (by omega)
                  clear l2
                  have HX : Hid (true = !b2) := by show _ = _; rw [← HB2.out]; simp [vmf, m0, m1, m2]
                  clear HB2
                  go_wp2_with fail
                  go_meet
                  exact ⟨congrArg Value.bool HX.out, rfl⟩
              · have m2 : mhv (n : Int) 16 zc.length = true := by rw [mhv, HG16.out, j2]; simp
                have HX : Hid (false = !b2) := by show _ = _; rw [← HB2.out]; simp [vmf, m0, m1, m2]
                clear HB2
                go_wp2_with fail
                go_meet
                exact ⟨congrArg Value.bool HX.out, rfl⟩
            · have m1 : mhv (n : Int) 8 zn.length = false := by rw [mhv, HG8.out, j1]; simp [l1]
              have li1 : (0 : Int) < zn.length := by omega
              have lj1 : decide (0 < zn.length) = true := decide_eq_true (by omega)
              clear l1
              have HX : Hid (true = !b2) := by show _ = _; rw [← HB2.out]; simp [vmf, m0, m1]
              clear HB2
              go_wp2_with fail
              go_meet
              exact ⟨congrArg Value.bool HX.out, rfl⟩
          · have m1 : mhv (n : Int) 8 zn.length = true := by rw [mhv, HG8.out, j1]; simp
            rcases (show (n : Int) / 16 % 2 = 0 ∨ (n : Int) / 16 % 2 = 1 from by omega) with j2 | j2
            · by_cases l2 : zc.length = 0
              · have m2 : mhv (n : Int) 16 zc.length = true := by rw [mhv, l2]; simp
                have li2 : ¬ (0 : Int) < zc.length := by omega
                have lj2 : decide (0 < zc.length) = false := decide_eq_false (by omega)
                have lk2 : decide ((0 : Int) < zc.length) = false := decide_eq_false li2
                clear l2
                have HX : Hid (false = !b2) := by show _ = _; rw [← HB2.out]; simp [vmf, m0, m1, m2]
                clear HB2
                go_wp2_with fail
                go_meet
                exact ⟨congrArg Value.bool HX.out, rfl⟩
              · have m2 : mhv (n : Int) 16 zc.length = false := by rw [mhv, HG16.out, j2]; simp [l2]
                have li2 : (0 : Int) < zc.length := by omega
                have lj2 : decide (0 < zc.length) = true := decide_eq_true (by omega)
                clear l2
                have HX : Hid (true = !b2) := by show _ = _; rw [← HB2.out]; simp [vmf, m0, m1, m2]
                clear HB2
                go_wp2_with fail
                go_meet
                exact ⟨congrArg Value.bool HX.out, rfl⟩
            · have m2 : mhv (n : Int) 16 zc.length = true := by rw [mhv, HG16.out, j2]; simp
              have HX : Hid (false = !b2) := by show _ = _; rw [← HB2.out]; simp [vmf, m0, m1, m2]
              clear HB2
              go_wp2_with fail
              go_meet
              exact ⟨congrArg Value.bool HX.out, rfl⟩
      case rest =>
        obtain ⟨rfl, rfl⟩ := hcut
        cases b2 with
        | false =>
          have HX : Hid (false = R) := by
            show _ = _
            rw [HR.out, HB2.out]; simp
          clear HR HB2
          go_wp2_with fail
          go_ret
          exact ⟨retb HX.out, L0.out⟩
        | true =>
          have HR2 : Hid (R = (wi sz 100000 && vmt zn zc && vmr ze.length zn.length zc.length)) := by
            show _ = _
            rw [HR.out, HB2.out, HV.out]; simp
          clear HR HB2 HV HG4 HG8 HG16
          by_cases r1 : ze.length ≤ 65535
          · have r1i : ((ze.length : Int) ≤ 65535) := by omega
            go_wp2_with fail
            refine (noZero_any an cn zn _ (HN.out.below L0.out) (by omega)).mono ?_
            rintro e w5 ⟨rfl, d5⟩
            have D5 := hideV (L0.out.trans (d5.mono L0.out.size))
            obtain ⟨c0, c1, c2, c3, c4, c5, c6, c7⟩ := H0.out.below d5
            have hpw5 := (H0.out.below d5).lt
            have HM := hideV (H0.out.below d5)
            clear d5
            cases z0 : haz zn with
            | true =>
              have HX : Hid (false = R) := by
                show _ = _
                rw [HR2.out, vmt, z0]; simp
              clear HR2
              simp only [Bool.not_true]
              go_wp2_with fail
              go_ret
              exact ⟨retb HX.out, D5.out⟩
            | false =>
              simp only [Bool.not_false]
              go_wp2_with fail
              refine (noZero_any ac cc zc _ (HC.out.below D5.out) (by omega)).mono ?_
              rintro e w6 ⟨rfl, d6⟩
              have D6 := hideV (D5.out.trans (d6.mono D5.out.size))
              obtain ⟨c0, c1, c2, c3, c4, c5, c6, c7⟩ := HM.out.below d6
              have hpw6 := (HM.out.below d6).lt
              clear d6
              cases z1 : haz zc with
              | true =>
                have HX : Hid (false = R) := by
                  show _ = _
                  rw [HR2.out, vmt, z1]; simp
                clear HR2
                simp only [Bool.not_true]
                go_wp2_with fail
                go_ret
                exact ⟨retb HX.out, D6.out⟩
              | false =>
                simp only [Bool.not_false]
                have HR3 : Hid (R = (wi sz 100000 && vmr ze.length zn.length zc.length)) := by
                  show _ = _
                  rw [HR2.out, vmt, z0, z1]; simp
                clear HR2
                by_cases r2 : ze.length + zn.length + zc.length ≤ 65536
                · have r2i : ((ze.length : Int) + (zn.length : Int) + (zc.length : Int) ≤ 65536) := by omega
                  by_cases s0 : 0 ≤ sz
                  · by_cases s1 : sz ≤ 100000
                    · have HX : Hid (true = R) := by show _ = _; rw [HR3.out, vmr]; simp [r1, r2, wi, s0, s1]
                      clear r1 r2 HR3
                      go_wp2_with fail
                      go_ret
                      exact ⟨retb HX.out, D6.out⟩
                    · have HX : Hid (false = R) := by show _ = _; rw [HR3.out, wi]; simp [s1]
                      have s1d : decide (sz ≤ 100000) = false := decide_eq_false s1
                      clear r1 r2 HR3
                      go_wp2_with fail
                      go_ret
                      exact ⟨retb HX.out, D6.out⟩
                  · have HX : Hid (false = R) := by show _ = _; rw [HR3.out, wi]; simp [s0]
                    have s0d : decide (0 ≤ sz) = false := decide_eq_false s0
                    clear r1 r2 HR3
                    go_wp2_with fail
                    go_ret
                    exact ⟨retb HX.out, D6.out⟩
                · have r2i : ¬ ((ze.length : Int) + (zn.length : Int) + (zc.length : Int) ≤ 65536) := by omega
                  have r2d : decide ((ze.length : Int) + (zn.length : Int) + (zc.length : Int) ≤ 65536) = false := decide_eq_false r2i
                  have HX : Hid (false = R) := by show _ = _; rw [HR3.out, vmr]; simp [r2]
                  clear r1 r2 HR3
                  go_wp2_with fail
                  go_ret
                  exact ⟨retb HX.out, D6.out⟩
          · have r1i : ¬ ((ze.length : Int) ≤ 65535) := by omega
            have r1d : decide ((ze.length : Int) ≤ 65535) = false := decide_eq_false r1i
            have HX : Hid (false = R) := by show _ = _; rw [HR2.out, vmr]; simp [r1]
            clear r1 HR2
            go_wp2_with fail
            go_ret
            exact ⟨retb HX.out, L0.out⟩
end Go.Proofs.Ytmfacacpoajpgad
