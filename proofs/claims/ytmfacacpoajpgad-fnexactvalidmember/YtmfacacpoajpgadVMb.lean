import Derived.Test.YtmfacacpoajpgadVMa
namespace Go.Proofs.Ytmfacacpoajpgad
open Go.RowKit
attribute [local go_sem ↓] Go.wp_at_zero Go.wp_at_succ
set_option linter.unusedVariables false

/-- A member in memory: its eight cells. -/
def Mb (w : World) (p : Nat) (f mt xf os sz : Int) (ve vn vc : Value) : Prop :=
  w.cell? ⟨p, 0, none⟩ = some (.int .i64 f) ∧ w.cell? ⟨p, 1, none⟩ = some (.int .i64 mt) ∧ w.cell? ⟨p, 2, none⟩ = some (.int .i64 xf) ∧ w.cell? ⟨p, 3, none⟩ = some (.int .i64 os) ∧ w.cell? ⟨p, 4, none⟩ = some ve ∧ w.cell? ⟨p, 5, none⟩ = some vn ∧ w.cell? ⟨p, 6, none⟩ = some vc ∧ w.cell? ⟨p, 7, none⟩ = some (.int .i64 sz)
theorem Mb.lt {w : World} {p : Nat} {f mt xf os sz : Int} {ve vn vc : Value} (h : Mb w p f mt xf os sz ve vn vc) : p < w.heap.size := World.block_lt_of_cell? w _ h.1
theorem Mb.grown {w w' : World} {row : Option Nat} {p : Nat} {f mt xf os sz : Int} {ve vn vc : Value} (h : Mb w p f mt xf os sz ve vn vc) (hg : w.grownBy w' row) (hne : some p ≠ row) : Mb w' p f mt xf os sz ve vn vc := by
  have e := hg.block p h.lt hne
  obtain ⟨h0, h1, h2, h3, h4, h5, h6, h7⟩ := h
  have k : ∀ o, w'.cell? ⟨p, o, none⟩ = w.cell? ⟨p, o, none⟩ := fun o => World.cell?_of_block (w := w) e
  exact ⟨(k 0).trans h0, (k 1).trans h1, (k 2).trans h2, (k 3).trans h3, (k 4).trans h4, (k 5).trans h5, (k 6).trans h6, (k 7).trans h7⟩
theorem Mb.below {w w' : World} {p : Nat} {f mt xf os sz : Int} {ve vn vc : Value} (h : Mb w p f mt xf os sz ve vn vc) (hb : Below w.heap.size w w') : Mb w' p f mt xf os sz ve vn vc := h.grown (grownBy_of_below hb none) (by simp)
theorem mb_new (w : World) (f mt xf os sz : Int) (ve vn vc : Value) (t : TypeId) : Mb (w.alloc (.cells #[.int .i64 f, .int .i64 mt, .int .i64 xf, .int .i64 os, ve, vn, vc, .int .i64 sz] t)) w.heap.size f mt xf os sz ve vn vc := by
  simp [Mb, go_sem]
/-- The parts of ValidMember. -/
def vmn (f mt xf os sz : Int) : Bool := wi f 31 && wi mt 4294967295 && wi xf 255 && wi os 255 && wi sz 100000
def vmf (f : Int) (ne nn nc : Nat) : Bool := mhv f 4 ne && mhv f 8 nn && mhv f 16 nc
def vmt (zn zc : List Int) : Bool := !haz zn && !haz zc
def vmr (ne nn nc : Nat) : Bool := decide (ne ≤ 65535) && decide (ne + nn + nc ≤ 65536)
def vmem (f mt xf os sz : Int) (ze zn zc : List Int) : Bool := vmn f mt xf os sz && vmf f ze.length zn.length zc.length && vmt zn zc && vmr ze.length zn.length zc.length
set_option maxRecDepth 100000 in
set_option maxHeartbeats 6400000 in
theorem ivm_any (f mt xf os sz : Int) (ae an ac : Option Addr) (ce cn cc : Nat) (ze zn zc : List Int) (w : World) (he : Row w ae ze) (hn : Row w an zn) (hc : Row w ac zc) (le : ze.length ≤ 1048576) (ln : zn.length ≤ 1048576) (lc : zc.length ≤ 1048576) :
    Calls Try.prog 17 #[.agg #[.int .i64 f, .int .i64 mt, .int .i64 xf, .int .i64 os, .slice ae ze.length ce, .slice an zn.length cn, .slice ac zc.length cc, .int .i64 sz]] w fun e w' => e = .returned (.bool (vmem f mt xf os sz ze zn zc)) ∧ Below w.heap.size w w' := by
  have H0 := hideV (mb_new w f mt xf os sz (.slice ae ze.length ce) (.slice an zn.length cn) (.slice ac zc.length cc) 40)
  have L0 : Hid (Below w.heap.size w (w.alloc (.cells #[.int .i64 f, .int .i64 mt, .int .i64 xf, .int .i64 os, .slice ae ze.length ce, .slice an zn.length cn, .slice ac zc.length cc, .int .i64 sz] 40))) := (Below.refl _ _).alloc (Nat.le_refl _) _
  have HN := hideV hn
  have HC := hideV hc
  clear he hn hc
  have HR : Hid (vmem f mt xf os sz ze zn zc = (vmn f mt xf os sz && vmf f ze.length zn.length zc.length && vmt zn zc && vmr ze.length zn.length zc.length)) := rfl
  generalize vmem f mt xf os sz ze zn zc = R at *
  obtain ⟨b1, hb1⟩ : ∃ b1, vmn f mt xf os sz = b1 := ⟨_, rfl⟩
  obtain ⟨b2, hb2⟩ : ∃ b2, vmf f ze.length zn.length zc.length = b2 := ⟨_, rfl⟩
  obtain ⟨b3, hb3⟩ : ∃ b3, vmt zn zc = b3 := ⟨_, rfl⟩
  obtain ⟨b4, hb4⟩ : ∃ b4, vmr ze.length zn.length zc.length = b4 := ⟨_, rfl⟩
  rw [hb1, hb2, hb3, hb4] at HR
  have HB1 := hideV hb1
  have HB2 := hideV hb2
  have HB3 := hideV hb3
  have HB4 := hideV hb4
  clear hb1 hb2 hb3 hb4
  go_enter Try.func17, Try.ntmps17
  go_upto_region 1 with fail
  go_cut [3] from 7 to 83 (fun v wx => v = .bool b1 ∧ wx = w.alloc (.cells #[.int .i64 f, .int .i64 mt, .int .i64 xf, .int .i64 os, .slice ae ze.length ce, .slice an zn.length cn, .slice ac zc.length cc, .int .i64 sz] 40))
  case first =>
    go_wp2_with fail
    refine (within_any f 31 _).mono ?_
    rintro e w1 ⟨rfl, rfl⟩
    cases k0 : wi f 31 with
    | false =>
      go_wp2_with fail
      go_meet
      exact ⟨congrArg Value.bool (by rw [← HB1.out]; simp [vmn, k0]), rfl⟩
    | true =>
      go_wp2_with fail
      refine (within_any mt 4294967295 _).mono ?_
      rintro e w2 ⟨rfl, rfl⟩
      cases k1 : wi mt 4294967295 with
      | false =>
        go_wp2_with fail
        go_meet
        exact ⟨congrArg Value.bool (by rw [← HB1.out]; simp [vmn, k0, k1]), rfl⟩
      | true =>
        go_wp2_with fail
        refine (within_any xf 255 _).mono ?_
        rintro e w3 ⟨rfl, rfl⟩
        cases k2 : wi xf 255 with
        | false =>
          go_wp2_with fail
          go_meet
          exact ⟨congrArg Value.bool (by rw [← HB1.out]; simp [vmn, k0, k1, k2]), rfl⟩
        | true =>
          go_wp2_with fail
          refine (within_any os 255 _).mono ?_
          rintro e w4 ⟨rfl, rfl⟩
          cases k3 : wi os 255 with
          | false =>
            go_wp2_with fail
            go_meet
            exact ⟨congrArg Value.bool (by rw [← HB1.out]; simp [vmn, k0, k1, k2, k3]), rfl⟩
          | true =>
            go_wp2_with fail
            refine (within_any sz 100000 _).mono ?_
            rintro e w5 ⟨rfl, rfl⟩
            cases k4 : wi sz 100000 with
            | false =>
              go_wp2_with fail
              go_meet
              exact ⟨congrArg Value.bool (by rw [← HB1.out]; simp [vmn, k0, k1, k2, k3, k4]), rfl⟩
            | true =>
              go_wp2_with fail
              go_meet
              exact ⟨congrArg Value.bool (by rw [← HB1.out]; simp [vmn, k0, k1, k2, k3, k4]), rfl⟩
  case rest =>
    obtain ⟨rfl, rfl⟩ := hcut
    generalize w.alloc (.cells #[.int .i64 f, .int .i64 mt, .int .i64 xf, .int .i64 os, .slice ae ze.length ce, .slice an zn.length cn, .slice ac zc.length cc, .int .i64 sz] 40) = W1 at *
    obtain ⟨c0, c1, c2, c3, c4, c5, c6, c7⟩ := H0.out
    have hpw := H0.out.lt
    go_upto_region 2 with fail
    go_cut [4] from 7 to 83 (fun v wx => v = .bool b2 ∧ Hid (Below W1.heap.size W1 wx))
    case first =>
      go_wp2_with fail
      refine (mayHave_any f mt xf os sz ae an ac ze.length ce zn.length cn zc.length cc 4 ae ze.length ce _).mono ?_
      rintro e w2 ⟨rfl, d0⟩
      have D0 := hideV (d0)
      obtain ⟨c0, c1, c2, c3, c4, c5, c6, c7⟩ := H0.out.below D0.out
      have hpw0 := (H0.out.below D0.out).lt
      clear d0
      cases m0 : mhv f 4 ze.length with
      | false =>
        go_wp2_with fail
        go_meet
        exact ⟨congrArg Value.bool (by rw [← HB2.out]; simp [vmf, m0]), D0⟩
      | true =>
        go_wp2_with fail
        refine (mayHave_any f mt xf os sz ae an ac ze.length ce zn.length cn zc.length cc 8 an zn.length cn _).mono ?_
        rintro e w3 ⟨rfl, d1⟩
        have D1 := hideV ((D0.out).trans (d1.mono (D0.out).size))
        obtain ⟨c0, c1, c2, c3, c4, c5, c6, c7⟩ := H0.out.below D1.out
        have hpw1 := (H0.out.below D1.out).lt
        clear d1
        cases m1 : mhv f 8 zn.length with
        | false =>
          go_wp2_with fail
          go_meet
          exact ⟨congrArg Value.bool (by rw [← HB2.out]; simp [vmf, m0, m1]), D1⟩
        | true =>
          go_wp2_with fail
          refine (mayHave_any f mt xf os sz ae an ac ze.length ce zn.length cn zc.length cc 16 ac zc.length cc _).mono ?_
          rintro e w4 ⟨rfl, d2⟩
          have D2 := hideV ((D1.out).trans (d2.mono (D1.out).size))
          obtain ⟨c0, c1, c2, c3, c4, c5, c6, c7⟩ := H0.out.below D2.out
          have hpw2 := (H0.out.below D2.out).lt
          clear d2
          cases m2 : mhv f 16 zc.length with
          | false =>
            go_wp2_with fail
            go_meet
            exact ⟨congrArg Value.bool (by rw [← HB2.out]; simp [vmf, m0, m1, m2]), D2⟩
          | true =>
            go_wp2_with fail
            go_meet
            exact ⟨congrArg Value.bool (by rw [← HB2.out]; simp [vmf, m0, m1, m2]), D2⟩
    case rest =>
      obtain ⟨rfl, D⟩ := hcut
      clear c0 c1 c2 c3 c4 c5 c6 c7
      obtain ⟨c0, c1, c2, c3, c4, c5, c6, c7⟩ := H0.out.below D.out
      have hpwc := (H0.out.below D.out).lt
      go_upto_region 3 with fail
      go_cut [5] from 7 to 83 (fun v wx => v = .bool b3 ∧ Hid (Below W1.heap.size W1 wx))
      case first =>
        go_wp2_with fail
        refine (contains0_any an cn zn _ (HN.out.below (L0.out.trans (D.out.mono L0.out.size))) (by omega)).mono ?_
        rintro e w5 ⟨rfl, d5⟩
        have D5 := hideV (D.out.trans (d5.mono D.out.size))
        clear c0 c1 c2 c3 c4 c5 c6 c7 d5
        obtain ⟨c0, c1, c2, c3, c4, c5, c6, c7⟩ := H0.out.below D5.out
        have hpw5 := (H0.out.below D5.out).lt
        cases z0 : haz zn with
        | true =>
          go_wp2_with fail
          go_meet
          exact ⟨congrArg Value.bool (by rw [← HB3.out]; simp [vmt, z0]), D5⟩
        | false =>
          go_wp2_with fail
          refine (contains0_any ac cc zc _ (HC.out.below (L0.out.trans (D5.out.mono L0.out.size))) (by omega)).mono ?_
          rintro e w6 ⟨rfl, d6⟩
          have D6 := hideV (D5.out.trans (d6.mono D5.out.size))
          clear d6
          cases z1 : haz zc with
          | true =>
            go_wp2_with fail
            go_meet
            exact ⟨congrArg Value.bool (by rw [← HB3.out]; simp [vmt, z0, z1]), D6⟩
          | false =>
            go_wp2_with fail
            go_meet
            exact ⟨congrArg Value.bool (by rw [← HB3.out]; simp [vmt, z0, z1]), D6⟩
      case rest =>
        clear c0 c1 c2 c3 c4 c5 c6 c7 D
        obtain ⟨rfl, D⟩ := hcut
        obtain ⟨c0, c1, c2, c3, c4, c5, c6, c7⟩ := H0.out.below D.out
        have hpwd := (H0.out.below D.out).lt
        go_upto_region 4 with fail
        go_cut [6] from 7 to 83 (fun v wx => v = .bool b4 ∧ Hid (Below W1.heap.size W1 wx))
        case first =>
          by_cases r1 : ze.length ≤ 65535
          · have r1i : ((ze.length : Int) ≤ 65535) := by omega
            by_cases r2 : ze.length + zn.length + zc.length ≤ 65536
            · have r2i : ((ze.length : Int) + (zn.length : Int) + (zc.length : Int) ≤ 65536) := by omega
              have HX : Hid (true = b4) := by show _ = _; rw [← HB4.out]; simp [vmr, r1, r2]
              clear r1 r2
              go_wp2_with fail
              go_meet
              exact ⟨congrArg Value.bool HX.out, D⟩
            · have r2i : ¬ ((ze.length : Int) + (zn.length : Int) + (zc.length : Int) ≤ 65536) := by omega
              have r2d : decide ((ze.length : Int) + (zn.length : Int) + (zc.length : Int) ≤ 65536) = false := decide_eq_false r2i
              have HX : Hid (false = b4) := by show _ = _; rw [← HB4.out]; simp [vmr, r2]
              clear r1 r2
              go_wp2_with fail
              go_meet
              exact ⟨congrArg Value.bool HX.out, D⟩
          · have r1i : ¬ ((ze.length : Int) ≤ 65535) := by omega
            have r1d : decide ((ze.length : Int) ≤ 65535) = false := decide_eq_false r1i
            have HX : Hid (false = b4) := by show _ = _; rw [← HB4.out]; simp [vmr, r1]
            clear r1
            go_wp2_with fail
            go_meet
            exact ⟨congrArg Value.bool HX.out, D⟩
        case rest =>
          clear c0 c1 c2 c3 c4 c5 c6 c7 D HB1 HB2 HB3 HB4
          obtain ⟨rfl, D⟩ := hcut
          have hL : Below w.heap.size w wc := L0.out.trans (D.out.mono L0.out.size)
          have HL := hideV hL
          clear hL
          cases b1 with
          | false =>
            go_wp2_with fail
            go_ret
            exact ⟨retb HR.out.symm, HL.out⟩
          | true =>
            cases b2 with
            | false =>
              go_wp2_with fail
              go_ret
              exact ⟨retb HR.out.symm, HL.out⟩
            | true =>
              cases b3 with
              | false =>
                go_wp2_with fail
                go_ret
                exact ⟨retb HR.out.symm, HL.out⟩
              | true =>
                cases b4 with
                | false =>
                  go_wp2_with fail
                  go_ret
                  exact ⟨retb HR.out.symm, HL.out⟩
                | true =>
                  go_wp2_with fail
                  go_ret
                  exact ⟨retb HR.out.symm, HL.out⟩
end Go.Proofs.Ytmfacacpoajpgad
