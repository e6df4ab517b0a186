import Derived.Test.YtmfacacpoajpgaaFeedM
import Derived.Test.YtmfacacpoajpgaaValidS
import Derived.Test.YtmfacacpoajpgaaValidI
import Derived.Test.YtmfacacpoajpgaaLawB
import Derived.Deep.RegionWith
import Derived.Deep.CutRange
namespace Go.Proofs.Ytmfacacpoajpgaa
open Go.RowKit
attribute [local go_sem ↓] Go.wp_at_zero Go.wp_at_succ

theorem law_fd_big1 (co mo : Option Addr) (n cc m cm : Nat) (w : World) (h : 1048576 < n) (hn : n ≤ 9223372036854775807) :
    Calls Try.prog 7 #[.slice co n cc, .slice mo m cm] w fun e w' => e = .returned (.bool true) ∧ Below w.heap.size w w' := by
  go_enter Try.func7, Try.ntmps7
  go_wp2_with fail
  go_ret
  exact ⟨rfl, Below.refl _ _⟩

theorem law_fd_big2 (co mo : Option Addr) (n cc m cm : Nat) (w : World) (hn : n ≤ 1048576) (h : 1048576 < m) (hm : m ≤ 9223372036854775807) :
    Calls Try.prog 7 #[.slice co n cc, .slice mo m cm] w fun e w' => e = .returned (.bool true) ∧ Below w.heap.size w w' := by
  go_enter Try.func7, Try.ntmps7
  go_wp2_with fail
  go_ret
  exact ⟨rfl, Below.refl _ _⟩

/-- What the loop keeps of the world: the reader's block p, and what was there before it. -/
structure Kept (w2 wr : World) (zs : List Int) (ps : List Piece) (k f at_ : Nat) (ao : Option Addr) (cap : Nat) : Prop where
  src : Src wr w2.heap.size (.slice ao (rd zs f at_).length cap) ((at_ % 8 : Nat) : Int) (at_ : Int)
  mine : Mine (w2.heap.size + 1) wr ao cap (rd zs f at_)
  below : Below w2.heap.size w2 wr
  fed : f = (flat (ps.take k)).length
  le : at_ ≤ 8 * f
  lt : w2.heap.size < wr.heap.size

/-- What was there before the loop. -/
structure Was (w w2 : World) (bo mo : Option Addr) (zs ms : List Int) (oo : Option Addr) (ps : List Piece) : Prop where
  text : Row w2 bo zs
  more : Row w2 mo ms
  cell : ∀ k (h : k < ps.length), ∃ g, oo = some ⟨g, 0, none⟩ ∧ w2.cell? ⟨g, k, none⟩ = some (ps[k]'h).val
  pieces : ∀ p ∈ ps, Row w2 p.1 p.2.2 ∧ (p.1 = none → p.2.2.length = 0 ∧ p.2.1 = 0)
  flat : flat ps = zs
  octets : Octets zs
  omore : Octets ms
  below : Below w.heap.size w w2

set_option maxRecDepth 100000 in
set_option maxHeartbeats 6400000 in
theorem law_fd (co mo : Option Addr) (cc cm : Nat) (cs ms : List Int) (w : World) (hr : Row w co cs) (hrm : Row w mo ms) (ho : Octets cs) (hom : Octets ms) (hn : cs.length ≤ 1048576) (hm : ms.length ≤ 1048576) :
    Calls Try.prog 7 #[.slice co cs.length cc, .slice mo ms.length cm] w fun e w' => e = .returned (.bool true) ∧ Below w.heap.size w w' := by
  go_enter Try.func7, Try.ntmps7
  go_wp2_with fail
  refine (drawCrc_any co cc cs w hr ho hn).mono ?_
  rintro e w1 ⟨x, bo, cap, zs, rfl, hoz, hz, h60, hb1⟩
  have hrm1 := hrm.below hb1
  have hmz := hoz.mine
  clear hr hrm ho
  go_wp2_with fail
  refine (lwCut_any bo cap zs mo cm ms w1 hmz.row hmz.fits (by omega) hrm1 hom).mono ?_
  rintro e w2 ⟨oo, oc, ps, rfl, how, hpc, hfl, h255, hb2⟩
  have HW : Was w w2 bo mo zs ms oo ps := by
    refine ⟨hmz.row.below hb2, hrm1.below hb2, ?_, fun p hp => ⟨(hpc p hp).1, (hpc p hp).2.1⟩, hfl, hz, hom, hb1.trans (hb2.mono hb1.size)⟩
    intro k hk
    rcases how.2 with ⟨e0, h0⟩ | ⟨g, c', cur, e1, _⟩
    · omega
    · simp only [Value.slice.injEq, true_and] at e1
      obtain ⟨e1, _⟩ := e1
      subst e1
      refine ⟨g, rfl, ?_⟩
      rw [how.cellAt k (by omega)]
      simp [hk]
  clear hmz hoz hrm1 how hpc hfl hz hom hb1 hb2
  have hK0 : Kept w2 (w2.alloc (.cells #[.slice none 0 0, .int .i64 0, .int .i64 0] 35)) zs ps 0 0 0 none 0 := by
    refine ⟨src_new w2 _ 0 0 _, ?_, (Below.refl _ _).alloc (Nat.le_refl _) _, rfl, by omega, by simp⟩
    exact Mine.nothing _ _
  go_wp2_with fail
  go_loopw [9, 10, 11] (fun fd at_ kk wr => ∃ (k f a : Nat) (ao : Option Addr) (cap : Nat), k ≤ 255 ∧ fd = .int .i64 (8 * (f : Int)) ∧ at_ = .int .i64 a ∧ kk = .int .i64 k ∧ Kept w2 wr zs ps k f a ao cap) (fun _ _ k _ => 256 - (intOf k).toNat)
  case atStart => exact ⟨0, 0, 0, none, 0, Nat.zero_le _, rfl, rfl, rfl, hK0⟩
  case round =>
    clear hK0
    obtain ⟨k, f, a, ao, cp, hk, rfl, rfl, rfl, HK⟩ := hrel
    have hfz : f ≤ zs.length := by have h1 := HK.fed; have h2 := flat_take_le ps k; rw [HW.flat] at h2; omega
    have hal := HK.le
    by_cases hlt : k < ps.length
    · obtain ⟨g, rfl, hcell⟩ := HW.cell k hlt
      have hpk := HW.pieces _ (List.getElem_mem hlt)
      have hfs := flat_take_succ ps k hlt
      obtain ⟨P, hP⟩ : ∃ P, ps[k] = P := ⟨_, rfl⟩
      rw [hP] at hcell hpk hfs
      obtain ⟨co', cc', cs'⟩ := P
      simp only [Piece.val] at hcell hpk hfs
      have hcr : wr.cell? ⟨g, k, none⟩ = some (.slice co' cs'.length cc') := by rw [HK.below.cell (p := ⟨g, k, none⟩) (World.block_lt_of_cell? w2 _ hcell)]; exact hcell
      have hgp : g < w2.heap.size := World.block_lt_of_cell? w2 _ hcell
      obtain ⟨r0, r1, r2⟩ := HK.src.three
      have hcell2 := hcell
      clear hP hcell
      have hcl : cs'.length ≤ 60 := by
        have h1 := flat_take_le ps (k + 1)
        rw [hfs, HW.flat, List.length_append] at h1
        omega
      have hvd := rd_vld zs f a hfz (by omega) hal
      have hfd : rd zs f a ++ cs' = rd zs (f + cs'.length) a := by
        refine rd_feed zs f a cs' (flat (ps.drop (k + 1))) hfz hal ?_
        have h1 := flat_take_drop ps (k + 1)
        have h2 := flat_take ps k
        rw [← HK.fed, HW.flat] at h2
        rw [hfs, HW.flat, List.append_assoc] at h1
        rw [h2]
        exact h1
      have hrl := rd_len zs f a hfz
      have HF : Hid (∀ W, Below wr.heap.size wr W → Calls Try.prog 21 #[.agg #[.slice ao (rd zs f a).length cp, .int .i64 ((a % 8 : Nat) : Int), .int .i64 (a : Int)], .slice co' cs'.length cc'] W fun e w' => ResB W.heap.size w' e (rd zs (f + cs'.length) a) ((a % 8 : Nat) : Int) (a : Int) ∧ Below W.heap.size W w') := by
        intro W hW
        have h1 := bitsFeed_any ao co' cp cc' (rd zs f a) cs' ((a % 8 : Nat) : Int) (a : Int) W (HK.mine.row.below hW) HK.mine.bare (by omega) ((hpk.1.below HK.below).below hW) hpk.2 (by omega)
        have e1 : fdZ (rd zs f a) cs' ((a % 8 : Nat) : Int) (a : Int) = rd zs (f + cs'.length) a := by
          unfold fdZ
          rw [if_pos hvd, if_pos (by omega), hfd]
        have e2 : fdA (rd zs f a) ((a % 8 : Nat) : Int) (a : Int) = ((a % 8 : Nat) : Int) := by
          unfold fdA
          rw [if_pos hvd]
        have e3 : fdU (rd zs f a) ((a % 8 : Nat) : Int) (a : Int) = (a : Int) := by
          unfold fdU
          rw [if_pos hvd]
        rw [e1, e2, e3] at h1
        exact h1
      clear hvd hfd hrl
      have hsrc := HK.src
      have hbel := HK.below
      have HFED : Hid _ := HK.fed
      have hgt := HK.lt
      clear HK hpk r0 r1 r2
      obtain ⟨R, hR⟩ : ∃ R, rd zs f a = R := ⟨_, rfl⟩
      obtain ⟨R', hR'⟩ : ∃ R', rd zs (f + cs'.length) a = R' := ⟨_, rfl⟩
      obtain ⟨A8, hA8⟩ : ∃ A8, ((a % 8 : Nat) : Int) = A8 := ⟨_, rfl⟩
      rw [hR, hR', hA8] at HF
      rw [hR, hA8] at hsrc
      have HR' : Hid _ := hR'
      have HA8 : Hid _ := hA8
      clear hR hR' hA8
      obtain ⟨r0, r1, r2⟩ := hsrc.three
      go_upto_region 12 with fail
      go_cut [9] from 33 to 132 (fun fd wx => fd = .int .i64 (8 * (f : Int)) ∧ ∃ ao3 cap3, Src wx w2.heap.size (.slice ao3 R'.length cap3) A8 (a : Int) ∧ Mine (w2.heap.size + 1) wx ao3 cap3 R' ∧ Below w2.heap.size w2 wx ∧ w2.heap.size < wx.heap.size)
      case first =>
        go_region_with (go_at_call 21; refine (HF.out _ ((Below.refl _ _).drew)).mono ?_; rintro e w3 ⟨⟨ao3, cap3, rfl, hm3⟩, hb3⟩; have hb3' : Below wr.heap.size wr w3 := ((Below.refl _ _).drew).trans hb3; have hs3 := hsrc.grown (grownBy_of_below hb3' none) (by simp); have hs3' := hs3; obtain ⟨_, _, _, _, _, _⟩ := hs3')
        all_goals
          obtain ⟨k1, k2, k3⟩ := src_set hs3 (.slice ao3 R'.length cap3) A8 (a : Int)
          have hm4 : Mine (w2.heap.size + 1) w3 ao3 cap3 R' := hm3.mono (by simp; omega)
          have hm5 := hm4.grown k2 (by intro k e; simp at e; subst e; exact hm4.far (by omega))
          have hb5 := (hbel.trans (hb3'.mono hbel.size)).grown k2 (by have := hbel.size; have := hb3'.size; omega) (by intro k e; simp at e; omega)
          have hl5 := hb3'.size
          clear hs3
          go_wp2_with fail
          go_meet
          exact ⟨rfl, ao3, cap3, k1, hm5, hb5, by rw [k3]; omega⟩
      case rest =>
        obtain ⟨rfl, ao3, cap3, hs3, hm3, hb3, hl3⟩ := hcut
        clear HF hsrc hbel hgt r0 r1 r2
        have hcr3 : wc.cell? ⟨g, k, none⟩ = some (.slice co' cs'.length cc') := by rw [hb3.cell (p := ⟨g, k, none⟩) hgp]; exact hcell2
        go_upto_region 14 with fail
        obtain ⟨F, hF⟩ : ∃ F, f + cs'.length = F := ⟨_, rfl⟩
        rw [show (8 * (f : Int) + 8 * (cs'.length : Int)) = 8 * (F : Int) by omega]
        have HRR : Hid (rd zs F a = R') := by rw [← hF]; exact HR'.out
        have HFE : Hid (F = (flat (ps.take (k + 1))).length) := by show F = _; rw [hfs, List.length_append, ← HFED.out, hF]
        have hFz : F ≤ zs.length := by have h1 := HFE.out; have h2 := flat_take_le ps (k + 1); rw [HW.flat] at h2; omega
        have haF : a ≤ 8 * F := by omega
        clear hF hcr hcr3 hgp hcell2 hcl hfs HR' HFED hfz hal
        have hrm := HW.more.below hb3
        go_wp2_with fail
        refine (lwAt_any mo cm ms k wc hrm HW.omore (by omega)).mono ?_
        rintro e wd ⟨⟨x9, rfl, hx9⟩, rfl⟩
        obtain ⟨N, hN⟩ : ∃ N : Nat, x9 % 20 = N := ⟨_, rfl⟩
        have hmod : (x9 : Int) % 20 = (N : Int) := by rw [← hN]; simp
        have hN20 : N < 20 := by omega
        clear hN hrm
        have hvd := rd_vld zs F a hFz (by omega) haF
        have hhas := rd_has zs F a N hFz (by omega) haF (by omega)
        have hrl := rd_len zs F a hFz
        have hTk := bitsTake_any ao3 cap3 (rd zs F a) ((a % 8 : Nat) : Int) (a : Int) (N : Int) wd (by rw [HRR.out]; exact hm3.row) (rd_octets HW.octets F a) hm3.bare (by omega)
        by_cases hok : (N : Int) ≤ 8 * (F : Int) - (a : Int)
        · have e1 : tkB (rd zs F a) ((a % 8 : Nat) : Int) (a : Int) (N : Int) = true := by
            unfold tkB
            rw [if_pos hvd, hhas, decide_eq_true hok]
          have e2 : tkV (rd zs F a) ((a % 8 : Nat) : Int) (a : Int) (N : Int) = field (bnum zs) a N := by
            unfold tkV
            rw [if_pos hvd, hhas, decide_eq_true hok, if_pos rfl, Int.toNat_natCast, Int.toNat_natCast]
            exact rd_field zs HW.octets F a N hFz (by omega)
          have e3 : tkZ (rd zs F a) ((a % 8 : Nat) : Int) (a : Int) (N : Int) = rd zs F (a + N) := by
            unfold tkZ
            rw [if_pos hvd, hhas, decide_eq_true hok, if_pos rfl]
            exact rd_drop zs F a N
          have e4 : tkA (rd zs F a) ((a % 8 : Nat) : Int) (a : Int) (N : Int) = (((a + N) % 8 : Nat) : Int) := by
            unfold tkA
            rw [if_pos hvd, hhas, decide_eq_true hok, if_pos rfl]
            omega
          have e5 : tkU (rd zs F a) ((a % 8 : Nat) : Int) (a : Int) (N : Int) = ((a + N : Nat) : Int) := by
            unfold tkU
            rw [if_pos hvd, hhas, decide_eq_true hok, if_pos rfl]
            omega
          have hv6 := rd_vld zs F (a + N) hFz (by omega) (by omega)
          rw [e1, e2, e3, e4, e5, HRR.out, HA8.out] at hTk
          clear e1 e2 e3 e4 e5 hvd hhas hrl
          obtain ⟨R6, hR6⟩ : ∃ R6, rd zs F (a + N) = R6 := ⟨_, rfl⟩
          obtain ⟨B8, hB8⟩ : ∃ B8, (((a + N) % 8 : Nat) : Int) = B8 := ⟨_, rfl⟩
          obtain ⟨U6, hU6⟩ : ∃ U6, ((a + N : Nat) : Int) = U6 := ⟨_, rfl⟩
          obtain ⟨V6, hV6⟩ : ∃ V6, field (bnum zs) a N = V6 := ⟨_, rfl⟩
          rw [hR6, hB8, hU6, hV6] at hTk
          rw [hR6, hB8, hU6] at hv6
          have HR6 : Hid _ := hR6
          have HB8 : Hid _ := hB8
          have HV6 : Hid _ := hV6
          have HV : Hid _ := hv6
          clear hR6 hB8 hV6 hv6
          have HT : Hid _ := hTk
          clear hTk
          obtain ⟨r0, r1, r2⟩ := hs3.three
          go_wp2_with fail
          refine Calls.mono HT.out ?_
          rintro e w5 ⟨⟨ao5, cap5, rfl, hm5⟩, hb5⟩
          have hs5 := hs3.grown (grownBy_of_below hb5 none) (by simp)
          have hx6 := five_new w5 (.bool true) (.int .u64 V6) (.slice ao5 R6.length cap5) (.int .i64 B8) (.int .i64 U6) 41
          have hal6 : w5.grownBy (w5.alloc (.cells #[.bool true, .int .u64 V6, .slice ao5 R6.length cap5, .int .i64 B8, .int .i64 U6] 41)) none := World.grownBy_alloc w5 _ _
          have hs6 := hs5.grown hal6 (by simp)
          have hm6 : Mine (w2.heap.size + 1) _ ao5 cap5 R6 := (hm5.mono (by omega)).grown hal6 (by intro k e; cases e)
          have hb6 := (hb3.trans (hb5.mono (by omega))).grown hal6 (by have := hb5.size; omega) (by intro k e; cases e)
          have hl6 : w2.heap.size < w5.heap.size := by have := hb5.size; omega
          have hz6 : (w5.alloc (.cells #[.bool true, .int .u64 V6, .slice ao5 R6.length cap5, .int .i64 B8, .int .i64 U6] 41)).heap.size = w5.heap.size + 1 := by simp
          clear HT r0 r1 r2 hs3 hm3 hb3 hl3 hs5 hm5 hb5 hal6
          go_wp2_with fail
          generalize w5.alloc (.cells #[.bool true, .int .u64 V6, .slice ao5 R6.length cap5, .int .i64 B8, .int .i64 U6] 41) = w6 at *
          have hd : decide ((N : Int) ≤ 8 * (F : Int) - (a : Int)) = true := decide_eq_true hok
          have HVL : Hid (∀ W, Calls Try.prog 23 #[.agg #[.slice ao5 R6.length cap5, .int .i64 B8, .int .i64 U6]] W fun e w' => e = .returned (.bool true) ∧ Below W.heap.size W w') := by
            intro W
            have h1 := svalid_any ao5 R6.length cap5 B8 U6 W
            rw [HV.out] at h1
            exact h1
          obtain ⟨y0, y1, y2, y3, y4⟩ := hx6.all
          obtain ⟨r0, r1, r2⟩ := hs6.three
          have hw1 : IntKind.i64.wrap (8 * (F : Int) - (a : Int)) = 8 * (F : Int) - (a : Int) := by rw [IntKind.wrap_i64]; omega
          have hw4 : (U6 != IntKind.i64.wrap ((a : Int) + IntKind.i64.wrap (N : Int))) = false := by
            have h2 : IntKind.i64.wrap (N : Int) = (N : Int) := by rw [IntKind.wrap_i64]; omega
            have h3 : IntKind.i64.wrap ((a : Int) + (N : Int)) = U6 := by rw [IntKind.wrap_i64]; omega
            rw [h2, h3]
            simp
          go_region_held3 (fun w' => w'.cell? ⟨w5.heap.size, 0, none⟩ = some (.bool true) ∧ w'.cell? ⟨w5.heap.size, 2, none⟩ = some (.slice ao5 R6.length cap5) ∧ w'.cell? ⟨w5.heap.size, 3, none⟩ = some (.int .i64 B8) ∧ w'.cell? ⟨w5.heap.size, 4, none⟩ = some (.int .i64 U6) ∧ w'.cell? ⟨w2.heap.size, 2, none⟩ = some (.int .i64 (a : Int)))
            (first | (refine ⟨?_, ?_, ?_, ?_, ?_⟩ <;> assumption) | (go_keep; done))
            (first | (go_at_call 23; refine (HVL.out _).mono ?_; rintro e w7 ⟨rfl, hb7⟩; have hb7' : Below w6.heap.size w6 w7 := ((Below.refl _ _).drew).trans hb7; obtain ⟨_, _, _, _, _⟩ := (hx6.grown (grownBy_of_below hb7' none) (by simp)).all; obtain ⟨_, _, _⟩ := (hs6.grown (grownBy_of_below hb7' none) (by simp)).three) | (go_at_call 24; refine (lwOne_any true _).mono ?_; rintro e w8 ⟨rfl, rfl⟩))
          have hx8 := hx6.grown (grownBy_of_below hb7' none) (by simp)
          have hs8 := hs6.grown (grownBy_of_below hb7' none) (by simp)
          have hm8 := hm6.below hb7'
          have hb8 := hb6.trans (hb7'.mono hb6.size)
          have ht8 := HW.text.below hb8
          have hl8 : w5.heap.size < w8.heap.size := by have := hb7'.size; omega
          clear hx6 hs6 hm6 hb6 hb7' hb7 HVL y0 y1 y2 y3 y4 r0 r1 r2 hw1
          obtain ⟨k1, k2, k3⟩ := src_set hs8 (.slice ao5 R6.length cap5) B8 U6
          have hm9 := hm8.grown k2 (by intro k e; simp at e; subst e; exact hm8.far (by omega))
          have hb9 := hb8.grown k2 (by omega) (by intro k e; simp at e; omega)
          have hs8' := hs8
          obtain ⟨r0, r1, r2, f0, f1, f2⟩ := hs8'
          obtain ⟨y0, y1, y2, y3, y4⟩ := hx8.all
          have HK1 : Hid _ := k1
          have HM9 : Hid _ := hm9
          have HB9 : Hid _ := hb9
          have HK3 : Hid _ := k3
          clear k1 k2 k3 hm9 hb9 hs8 hm8 hb8 hx8
          go_wp2_with fail
          go_loop [14, 15] (fun v i => ∃ j : Nat, j ≤ N ∧ i = .int .i64 ((j : Int) - 1) ∧ v = .int .u64 (field (bnum zs) (a + j) (N - j) : Nat)) (fun _ i => (intOf i + 1).toNat)
          case atStart => exact ⟨N, Nat.le_refl _, by go_num, by rw [Nat.sub_self, field_zero]; rfl⟩
          case round =>
            obtain ⟨j, hj, rfl, rfl⟩ := hrel
            by_cases hj0 : 0 < j
            · obtain ⟨i, rfl⟩ : ∃ i, j = i + 1 := ⟨j - 1, by omega⟩
              have hf := field_succ (bnum zs) (a + i) (N - (i + 1))
              rw [show N - (i + 1) + 1 = N - i by omega, show a + i + 1 = a + (i + 1) by omega] at hf
              have HF2 : Hid (field (bnum zs) (a + i) (N - i) = 2 * field (bnum zs) (a + (i + 1)) (N - (i + 1)) + bnum zs / 2 ^ (a + i) % 2) := hf
              have hfl := field_lt (bnum zs) (a + (i + 1)) (N - (i + 1))
              have hfl2 : (2 : Nat) ^ (N - (i + 1)) ≤ 2 ^ 31 := Nat.pow_le_pow_right (by decide) (by omega)
              have hfb : field (bnum zs) (a + (i + 1)) (N - (i + 1)) ≤ 2147483648 := by omega
              have hbb : bnum zs / 2 ^ (a + i) % 2 ≤ 1 := by omega
              obtain ⟨b, off, rfl, hc⟩ := ht8.at (k := (a + i) / 8) (by omega)
              have hck := hc ((a + i) / 8) (by omega)
              have hzk := HW.octets.getD ((a + i) / 8)
              have HB : Hid ((zs.getD ((a + i) / 8) 0).toNat / 2 ^ ((a + i) % 8) % 2 = bnum zs / 2 ^ (a + i) % 2) := bnum_bit zs HW.octets (a + i)
              obtain ⟨Q, hQ⟩ : ∃ Q : Nat, Q = (a + i) / 8 := ⟨_, rfl⟩
              obtain ⟨S, hS⟩ : ∃ S : Nat, S = (a + i) % 8 := ⟨_, rfl⟩
              have e1 : (((a : Int) + (i : Int)) / 8) = (Q : Int) := by omega
              have e2 : (((a : Int) + (i : Int)) % 8) = (S : Int) := by omega
              have hQl : Q < zs.length := by omega
              have hS7 : S ≤ 7 := by omega
              rw [← hQ] at hck hzk HB
              rw [← hS] at HB
              have hj1 : (((i + 1 : Nat) : Int) - 1) = (i : Int) := by omega
              clear hf hfl hfl2 hc hQ hS ht8 HW
              generalize zs.getD Q 0 = y at *
              generalize field (bnum zs) (a + (i + 1)) (N - (i + 1)) = fy at *
              generalize bnum zs / 2 ^ (a + i) % 2 = bt at *
              go_wp2_with fail
              go_round
              case rel => exact ⟨i, by omega, by go_num, by rw [HF2.out, bit_eq y S hzk.1 hzk.2, HB.out, IntKind.wrap_u64]; exact congrArg (Value.int .u64) (by omega)⟩
              case measure => simp [intOf]
            · have e : j = 0 := by omega
              subst e
              simp only [Nat.add_zero, Nat.sub_zero]
              rw [HV6.out]
              go_wp2_with fail
              go_roundw
              case rel => exact ⟨k + 1, F, a + N, ao5, cap5, by omega, rfl, by go_num, by go_num, ⟨by rw [HR6.out, HB8.out, hU6]; exact HK1.out, by rw [HR6.out]; exact HM9.out, HB9.out, HFE.out, by omega, by rw [HK3.out]; omega⟩⟩
              case measure => simp [intOf]; omega
        · have e1 : tkB (rd zs F a) ((a % 8 : Nat) : Int) (a : Int) (N : Int) = false := by
            unfold tkB
            rw [if_pos hvd, hhas, decide_eq_false hok]
          have e2 : tkV (rd zs F a) ((a % 8 : Nat) : Int) (a : Int) (N : Int) = 0 := by
            unfold tkV
            rw [if_pos hvd, hhas, decide_eq_false hok]
            rfl
          have e3 : tkZ (rd zs F a) ((a % 8 : Nat) : Int) (a : Int) (N : Int) = rd zs F a := by
            unfold tkZ
            rw [if_pos hvd, hhas, decide_eq_false hok]
            rfl
          have e4 : tkA (rd zs F a) ((a % 8 : Nat) : Int) (a : Int) (N : Int) = ((a % 8 : Nat) : Int) := by
            unfold tkA
            rw [if_pos hvd, hhas, decide_eq_false hok]
            rfl
          have e5 : tkU (rd zs F a) ((a % 8 : Nat) : Int) (a : Int) (N : Int) = (a : Int) := by
            unfold tkU
            rw [if_pos hvd, hhas, decide_eq_false hok]
            rfl
          rw [e1, e2, e3, e4, e5, HRR.out, HA8.out] at hTk
          rw [HRR.out, HA8.out] at hvd
          have HV : Hid _ := hvd
          clear e1 e2 e3 e4 e5 hvd hhas hrl
          have HT : Hid _ := hTk
          clear hTk
          obtain ⟨r0, r1, r2⟩ := hs3.three
          go_wp2_with fail
          refine Calls.mono HT.out ?_
          rintro e w5 ⟨⟨ao5, cap5, rfl, hm5⟩, hb5⟩
          have hs5 := hs3.grown (grownBy_of_below hb5 none) (by simp)
          have hx6 := five_new w5 (.bool false) (.int .u64 ((0 : Nat) : Int)) (.slice ao5 R'.length cap5) (.int .i64 A8) (.int .i64 (a : Int)) 41
          have hal6 : w5.grownBy (w5.alloc (.cells #[.bool false, .int .u64 ((0 : Nat) : Int), .slice ao5 R'.length cap5, .int .i64 A8, .int .i64 (a : Int)] 41)) none := World.grownBy_alloc w5 _ _
          have hs6 := hs5.grown hal6 (by simp)
          have hm6 : Mine (w2.heap.size + 1) _ ao5 cap5 R' := (hm5.mono (by omega)).grown hal6 (by intro k e; cases e)
          have hb6 := (hb3.trans (hb5.mono (by omega))).grown hal6 (by have := hb5.size; omega) (by intro k e; cases e)
          have hl6 : w2.heap.size < w5.heap.size := by have := hb5.size; omega
          have hz6 : (w5.alloc (.cells #[.bool false, .int .u64 ((0 : Nat) : Int), .slice ao5 R'.length cap5, .int .i64 A8, .int .i64 (a : Int)] 41)).heap.size = w5.heap.size + 1 := by simp
          clear HT r0 r1 r2 hs3 hm3 hb3 hl3 hs5 hm5 hb5 hal6
          go_wp2_with fail
          simp only [Int.natCast_zero] at hx6 hs6 hm6 hb6 hz6 ⊢
          generalize w5.alloc (.cells #[.bool false, .int .u64 0, .slice ao5 R'.length cap5, .int .i64 A8, .int .i64 (a : Int)] 41) = w6 at *
          have hd : decide ((N : Int) ≤ 8 * (F : Int) - (a : Int)) = false := decide_eq_false (by omega)
          have HVL : Hid (∀ W, Calls Try.prog 23 #[.agg #[.slice ao5 R'.length cap5, .int .i64 A8, .int .i64 (a : Int)]] W fun e w' => e = .returned (.bool true) ∧ Below W.heap.size W w') := by
            intro W
            have h1 := svalid_any ao5 R'.length cap5 A8 (a : Int) W
            rw [HV.out] at h1
            exact h1
          obtain ⟨y0, y1, y2, y3, y4⟩ := hx6.all
          obtain ⟨r0, r1, r2⟩ := hs6.three
          have hw1 : IntKind.i64.wrap (8 * (F : Int) - (a : Int)) = 8 * (F : Int) - (a : Int) := by rw [IntKind.wrap_i64]; omega
          have hw4 : ((a : Int) != IntKind.i64.wrap ((a : Int) + IntKind.i64.wrap 0)) = false := by
            have h2 : IntKind.i64.wrap 0 = 0 := by rw [IntKind.wrap_i64]; omega
            have h3 : IntKind.i64.wrap ((a : Int) + 0) = (a : Int) := by rw [IntKind.wrap_i64]; omega
            rw [h2, h3]
            simp
          go_region_held3 (fun w' => w'.cell? ⟨w5.heap.size, 0, none⟩ = some (.bool false) ∧ w'.cell? ⟨w5.heap.size, 2, none⟩ = some (.slice ao5 R'.length cap5) ∧ w'.cell? ⟨w5.heap.size, 3, none⟩ = some (.int .i64 A8) ∧ w'.cell? ⟨w5.heap.size, 4, none⟩ = some (.int .i64 (a : Int)) ∧ w'.cell? ⟨w2.heap.size, 2, none⟩ = some (.int .i64 (a : Int)))
            (first | (refine ⟨?_, ?_, ?_, ?_, ?_⟩ <;> assumption) | (go_keep; done))
            (first | (go_at_call 23; refine (HVL.out _).mono ?_; rintro e w7 ⟨rfl, hb7⟩; have hb7' : Below w6.heap.size w6 w7 := ((Below.refl _ _).drew).trans hb7; obtain ⟨_, _, _, _, _⟩ := (hx6.grown (grownBy_of_below hb7' none) (by simp)).all; obtain ⟨_, _, _⟩ := (hs6.grown (grownBy_of_below hb7' none) (by simp)).three) | (go_at_call 24; refine (lwOne_any false _).mono ?_; rintro e w8 ⟨rfl, rfl⟩))
          have hx8 := hx6.grown (grownBy_of_below hb7' none) (by simp)
          have hs8 := hs6.grown (grownBy_of_below hb7' none) (by simp)
          have hm8 := hm6.below hb7'
          have hb8 := hb6.trans (hb7'.mono hb6.size)
          have hl8 : w5.heap.size < w8.heap.size := by have := hb7'.size; omega
          clear hx6 hs6 hm6 hb6 hb7' hb7 HVL y0 y1 y2 y3 y4 r0 r1 r2 hw1
          obtain ⟨k1, k2, k3⟩ := src_set hs8 (.slice ao5 R'.length cap5) A8 (a : Int)
          have hm9 := hm8.grown k2 (by intro k e; simp at e; subst e; exact hm8.far (by omega))
          have hb9 := hb8.grown k2 (by omega) (by intro k e; simp at e; omega)
          have hs8' := hs8
          obtain ⟨r0, r1, r2, f0, f1, f2⟩ := hs8'
          obtain ⟨y0, y1, y2, y3, y4⟩ := hx8.all
          have HK1 : Hid _ := k1
          have HM9 : Hid _ := hm9
          have HB9 : Hid _ := hb9
          have HK3 : Hid _ := k3
          clear k1 k2 k3 hm9 hb9 hs8 hm8 hb8 hx8
          go_wp2_with fail
          go_roundw
          case rel => exact ⟨k + 1, F, a, ao5, cap5, by omega, rfl, rfl, by go_num, ⟨by rw [HRR.out, HA8.out]; exact HK1.out, by rw [HRR.out]; exact HM9.out, HB9.out, HFE.out, by omega, by rw [HK3.out]; omega⟩⟩
          case measure => simp [intOf]; omega
    · by_cases h40 : k < 40
      · have hs3 := HK.src
        have hm3 := HK.mine
        have hb3 := HK.below
        have hl3 := HK.lt
        obtain ⟨R', hR'⟩ : ∃ R', rd zs f a = R' := ⟨_, rfl⟩
        obtain ⟨A8, hA8⟩ : ∃ A8, ((a % 8 : Nat) : Int) = A8 := ⟨_, rfl⟩
        rw [hR', hA8] at hs3
        rw [hR'] at hm3
        have HRR : Hid (rd zs f a = R') := hR'
        have HA8 : Hid _ := hA8
        have HFE : Hid (f = (flat (ps.take (k + 1))).length) := by
          show f = (flat (ps.take (k + 1))).length
          have h1 := HK.fed
          rw [List.take_of_length_le (by omega)] at h1
          rw [List.take_of_length_le (by omega)]
          exact h1
        have hFz := hfz
        have haF := hal
        clear HK hR' hA8 hfz hal
        go_upto_region 14 with fail
        have hrm := HW.more.below hb3
        go_wp2_with fail
        refine (lwAt_any mo cm ms k wr hrm HW.omore (by omega)).mono ?_
        rintro e wd ⟨⟨x9, rfl, hx9⟩, rfl⟩
        obtain ⟨N, hN⟩ : ∃ N : Nat, x9 % 20 = N := ⟨_, rfl⟩
        have hmod : (x9 : Int) % 20 = (N : Int) := by rw [← hN]; simp
        have hN20 : N < 20 := by omega
        clear hN hrm
        have hvd := rd_vld zs f a hFz (by omega) haF
        have hhas := rd_has zs f a N hFz (by omega) haF (by omega)
        have hrl := rd_len zs f a hFz
        have hTk := bitsTake_any ao cp (rd zs f a) ((a % 8 : Nat) : Int) (a : Int) (N : Int) wd (by rw [HRR.out]; exact hm3.row) (rd_octets HW.octets f a) hm3.bare (by omega)
        by_cases hok : (N : Int) ≤ 8 * (f : Int) - (a : Int)
        · have e1 : tkB (rd zs f a) ((a % 8 : Nat) : Int) (a : Int) (N : Int) = true := by
            unfold tkB
            rw [if_pos hvd, hhas, decide_eq_true hok]
          have e2 : tkV (rd zs f a) ((a % 8 : Nat) : Int) (a : Int) (N : Int) = field (bnum zs) a N := by
            unfold tkV
            rw [if_pos hvd, hhas, decide_eq_true hok, if_pos rfl, Int.toNat_natCast, Int.toNat_natCast]
            exact rd_field zs HW.octets f a N hFz (by omega)
          have e3 : tkZ (rd zs f a) ((a % 8 : Nat) : Int) (a : Int) (N : Int) = rd zs f (a + N) := by
            unfold tkZ
            rw [if_pos hvd, hhas, decide_eq_true hok, if_pos rfl]
            exact rd_drop zs f a N
          have e4 : tkA (rd zs f a) ((a % 8 : Nat) : Int) (a : Int) (N : Int) = (((a + N) % 8 : Nat) : Int) := by
            unfold tkA
            rw [if_pos hvd, hhas, decide_eq_true hok, if_pos rfl]
            omega
          have e5 : tkU (rd zs f a) ((a % 8 : Nat) : Int) (a : Int) (N : Int) = ((a + N : Nat) : Int) := by
            unfold tkU
            rw [if_pos hvd, hhas, decide_eq_true hok, if_pos rfl]
            omega
          have hv6 := rd_vld zs f (a + N) hFz (by omega) (by omega)
          rw [e1, e2, e3, e4, e5, HRR.out, HA8.out] at hTk
          clear e1 e2 e3 e4 e5 hvd hhas hrl
          obtain ⟨R6, hR6⟩ : ∃ R6, rd zs f (a + N) = R6 := ⟨_, rfl⟩
          obtain ⟨B8, hB8⟩ : ∃ B8, (((a + N) % 8 : Nat) : Int) = B8 := ⟨_, rfl⟩
          obtain ⟨U6, hU6⟩ : ∃ U6, ((a + N : Nat) : Int) = U6 := ⟨_, rfl⟩
          obtain ⟨V6, hV6⟩ : ∃ V6, field (bnum zs) a N = V6 := ⟨_, rfl⟩
          rw [hR6, hB8, hU6, hV6] at hTk
          rw [hR6, hB8, hU6] at hv6
          have HR6 : Hid _ := hR6
          have HB8 : Hid _ := hB8
          have HV6 : Hid _ := hV6
          have HV : Hid _ := hv6
          clear hR6 hB8 hV6 hv6
          have HT : Hid _ := hTk
          clear hTk
          obtain ⟨r0, r1, r2⟩ := hs3.three
          go_wp2_with fail
          refine Calls.mono HT.out ?_
          rintro e w5 ⟨⟨ao5, cap5, rfl, hm5⟩, hb5⟩
          have hs5 := hs3.grown (grownBy_of_below hb5 none) (by simp)
          have hx6 := five_new w5 (.bool true) (.int .u64 V6) (.slice ao5 R6.length cap5) (.int .i64 B8) (.int .i64 U6) 41
          have hal6 : w5.grownBy (w5.alloc (.cells #[.bool true, .int .u64 V6, .slice ao5 R6.length cap5, .int .i64 B8, .int .i64 U6] 41)) none := World.grownBy_alloc w5 _ _
          have hs6 := hs5.grown hal6 (by simp)
          have hm6 : Mine (w2.heap.size + 1) _ ao5 cap5 R6 := (hm5.mono (by omega)).grown hal6 (by intro k e; cases e)
          have hb6 := (hb3.trans (hb5.mono (by omega))).grown hal6 (by have := hb5.size; omega) (by intro k e; cases e)
          have hl6 : w2.heap.size < w5.heap.size := by have := hb5.size; omega
          have hz6 : (w5.alloc (.cells #[.bool true, .int .u64 V6, .slice ao5 R6.length cap5, .int .i64 B8, .int .i64 U6] 41)).heap.size = w5.heap.size + 1 := by simp
          clear HT r0 r1 r2 hs3 hm3 hb3 hl3 hs5 hm5 hb5 hal6
          go_wp2_with fail
          generalize w5.alloc (.cells #[.bool true, .int .u64 V6, .slice ao5 R6.length cap5, .int .i64 B8, .int .i64 U6] 41) = w6 at *
          have hd : decide ((N : Int) ≤ 8 * (f : Int) - (a : Int)) = true := decide_eq_true hok
          have HVL : Hid (∀ W, Calls Try.prog 23 #[.agg #[.slice ao5 R6.length cap5, .int .i64 B8, .int .i64 U6]] W fun e w' => e = .returned (.bool true) ∧ Below W.heap.size W w') := by
            intro W
            have h1 := svalid_any ao5 R6.length cap5 B8 U6 W
            rw [HV.out] at h1
            exact h1
          obtain ⟨y0, y1, y2, y3, y4⟩ := hx6.all
          obtain ⟨r0, r1, r2⟩ := hs6.three
          have hw1 : IntKind.i64.wrap (8 * (f : Int) - (a : Int)) = 8 * (f : Int) - (a : Int) := by rw [IntKind.wrap_i64]; omega
          have hw4 : (U6 != IntKind.i64.wrap ((a : Int) + IntKind.i64.wrap (N : Int))) = false := by
            have h2 : IntKind.i64.wrap (N : Int) = (N : Int) := by rw [IntKind.wrap_i64]; omega
            have h3 : IntKind.i64.wrap ((a : Int) + (N : Int)) = U6 := by rw [IntKind.wrap_i64]; omega
            rw [h2, h3]
            simp
          go_region_held3 (fun w' => w'.cell? ⟨w5.heap.size, 0, none⟩ = some (.bool true) ∧ w'.cell? ⟨w5.heap.size, 2, none⟩ = some (.slice ao5 R6.length cap5) ∧ w'.cell? ⟨w5.heap.size, 3, none⟩ = some (.int .i64 B8) ∧ w'.cell? ⟨w5.heap.size, 4, none⟩ = some (.int .i64 U6) ∧ w'.cell? ⟨w2.heap.size, 2, none⟩ = some (.int .i64 (a : Int)))
            (first | (refine ⟨?_, ?_, ?_, ?_, ?_⟩ <;> assumption) | (go_keep; done))
            (first | (go_at_call 23; refine (HVL.out _).mono ?_; rintro e w7 ⟨rfl, hb7⟩; have hb7' : Below w6.heap.size w6 w7 := ((Below.refl _ _).drew).trans hb7; obtain ⟨_, _, _, _, _⟩ := (hx6.grown (grownBy_of_below hb7' none) (by simp)).all; obtain ⟨_, _, _⟩ := (hs6.grown (grownBy_of_below hb7' none) (by simp)).three) | (go_at_call 24; refine (lwOne_any true _).mono ?_; rintro e w8 ⟨rfl, rfl⟩))
          have hx8 := hx6.grown (grownBy_of_below hb7' none) (by simp)
          have hs8 := hs6.grown (grownBy_of_below hb7' none) (by simp)
          have hm8 := hm6.below hb7'
          have hb8 := hb6.trans (hb7'.mono hb6.size)
          have ht8 := HW.text.below hb8
          have hl8 : w5.heap.size < w8.heap.size := by have := hb7'.size; omega
          clear hx6 hs6 hm6 hb6 hb7' hb7 HVL y0 y1 y2 y3 y4 r0 r1 r2 hw1
          obtain ⟨k1, k2, k3⟩ := src_set hs8 (.slice ao5 R6.length cap5) B8 U6
          have hm9 := hm8.grown k2 (by intro k e; simp at e; subst e; exact hm8.far (by omega))
          have hb9 := hb8.grown k2 (by omega) (by intro k e; simp at e; omega)
          have hs8' := hs8
          obtain ⟨r0, r1, r2, f0, f1, f2⟩ := hs8'
          obtain ⟨y0, y1, y2, y3, y4⟩ := hx8.all
          have HK1 : Hid _ := k1
          have HM9 : Hid _ := hm9
          have HB9 : Hid _ := hb9
          have HK3 : Hid _ := k3
          clear k1 k2 k3 hm9 hb9 hs8 hm8 hb8 hx8
          go_wp2_with fail
          go_loop [14, 15] (fun v i => ∃ j : Nat, j ≤ N ∧ i = .int .i64 ((j : Int) - 1) ∧ v = .int .u64 (field (bnum zs) (a + j) (N - j) : Nat)) (fun _ i => (intOf i + 1).toNat)
          case atStart => exact ⟨N, Nat.le_refl _, by go_num, by rw [Nat.sub_self, field_zero]; rfl⟩
          case round =>
            obtain ⟨j, hj, rfl, rfl⟩ := hrel
            by_cases hj0 : 0 < j
            · obtain ⟨i, rfl⟩ : ∃ i, j = i + 1 := ⟨j - 1, by omega⟩
              have hf := field_succ (bnum zs) (a + i) (N - (i + 1))
              rw [show N - (i + 1) + 1 = N - i by omega, show a + i + 1 = a + (i + 1) by omega] at hf
              have HF2 : Hid (field (bnum zs) (a + i) (N - i) = 2 * field (bnum zs) (a + (i + 1)) (N - (i + 1)) + bnum zs / 2 ^ (a + i) % 2) := hf
              have hfl := field_lt (bnum zs) (a + (i + 1)) (N - (i + 1))
              have hfl2 : (2 : Nat) ^ (N - (i + 1)) ≤ 2 ^ 31 := Nat.pow_le_pow_right (by decide) (by omega)
              have hfb : field (bnum zs) (a + (i + 1)) (N - (i + 1)) ≤ 2147483648 := by omega
              have hbb : bnum zs / 2 ^ (a + i) % 2 ≤ 1 := by omega
              obtain ⟨b, off, rfl, hc⟩ := ht8.at (k := (a + i) / 8) (by omega)
              have hck := hc ((a + i) / 8) (by omega)
              have hzk := HW.octets.getD ((a + i) / 8)
              have HB : Hid ((zs.getD ((a + i) / 8) 0).toNat / 2 ^ ((a + i) % 8) % 2 = bnum zs / 2 ^ (a + i) % 2) := bnum_bit zs HW.octets (a + i)
              obtain ⟨Q, hQ⟩ : ∃ Q : Nat, Q = (a + i) / 8 := ⟨_, rfl⟩
              obtain ⟨S, hS⟩ : ∃ S : Nat, S = (a + i) % 8 := ⟨_, rfl⟩
              have e1 : (((a : Int) + (i : Int)) / 8) = (Q : Int) := by omega
              have e2 : (((a : Int) + (i : Int)) % 8) = (S : Int) := by omega
              have hQl : Q < zs.length := by omega
              have hS7 : S ≤ 7 := by omega
              rw [← hQ] at hck hzk HB
              rw [← hS] at HB
              have hj1 : (((i + 1 : Nat) : Int) - 1) = (i : Int) := by omega
              clear hf hfl hfl2 hc hQ hS ht8 HW
              generalize zs.getD Q 0 = y at *
              generalize field (bnum zs) (a + (i + 1)) (N - (i + 1)) = fy at *
              generalize bnum zs / 2 ^ (a + i) % 2 = bt at *
              go_wp2_with fail
              go_round
              case rel => exact ⟨i, by omega, by go_num, by rw [HF2.out, bit_eq y S hzk.1 hzk.2, HB.out, IntKind.wrap_u64]; exact congrArg (Value.int .u64) (by omega)⟩
              case measure => simp [intOf]
            · have e : j = 0 := by omega
              subst e
              simp only [Nat.add_zero, Nat.sub_zero]
              rw [HV6.out]
              go_wp2_with fail
              go_roundw
              case rel => exact ⟨k + 1, f, a + N, ao5, cap5, by omega, rfl, by go_num, by go_num, ⟨by rw [HR6.out, HB8.out, hU6]; exact HK1.out, by rw [HR6.out]; exact HM9.out, HB9.out, HFE.out, by omega, by rw [HK3.out]; omega⟩⟩
              case measure => simp [intOf]; omega
        · have e1 : tkB (rd zs f a) ((a % 8 : Nat) : Int) (a : Int) (N : Int) = false := by
            unfold tkB
            rw [if_pos hvd, hhas, decide_eq_false hok]
          have e2 : tkV (rd zs f a) ((a % 8 : Nat) : Int) (a : Int) (N : Int) = 0 := by
            unfold tkV
            rw [if_pos hvd, hhas, decide_eq_false hok]
            rfl
          have e3 : tkZ (rd zs f a) ((a % 8 : Nat) : Int) (a : Int) (N : Int) = rd zs f a := by
            unfold tkZ
            rw [if_pos hvd, hhas, decide_eq_false hok]
            rfl
          have e4 : tkA (rd zs f a) ((a % 8 : Nat) : Int) (a : Int) (N : Int) = ((a % 8 : Nat) : Int) := by
            unfold tkA
            rw [if_pos hvd, hhas, decide_eq_false hok]
            rfl
          have e5 : tkU (rd zs f a) ((a % 8 : Nat) : Int) (a : Int) (N : Int) = (a : Int) := by
            unfold tkU
            rw [if_pos hvd, hhas, decide_eq_false hok]
            rfl
          rw [e1, e2, e3, e4, e5, HRR.out, HA8.out] at hTk
          rw [HRR.out, HA8.out] at hvd
          have HV : Hid _ := hvd
          clear e1 e2 e3 e4 e5 hvd hhas hrl
          have HT : Hid _ := hTk
          clear hTk
          obtain ⟨r0, r1, r2⟩ := hs3.three
          go_wp2_with fail
          refine Calls.mono HT.out ?_
          rintro e w5 ⟨⟨ao5, cap5, rfl, hm5⟩, hb5⟩
          have hs5 := hs3.grown (grownBy_of_below hb5 none) (by simp)
          have hx6 := five_new w5 (.bool false) (.int .u64 ((0 : Nat) : Int)) (.slice ao5 R'.length cap5) (.int .i64 A8) (.int .i64 (a : Int)) 41
          have hal6 : w5.grownBy (w5.alloc (.cells #[.bool false, .int .u64 ((0 : Nat) : Int), .slice ao5 R'.length cap5, .int .i64 A8, .int .i64 (a : Int)] 41)) none := World.grownBy_alloc w5 _ _
          have hs6 := hs5.grown hal6 (by simp)
          have hm6 : Mine (w2.heap.size + 1) _ ao5 cap5 R' := (hm5.mono (by omega)).grown hal6 (by intro k e; cases e)
          have hb6 := (hb3.trans (hb5.mono (by omega))).grown hal6 (by have := hb5.size; omega) (by intro k e; cases e)
          have hl6 : w2.heap.size < w5.heap.size := by have := hb5.size; omega
          have hz6 : (w5.alloc (.cells #[.bool false, .int .u64 ((0 : Nat) : Int), .slice ao5 R'.length cap5, .int .i64 A8, .int .i64 (a : Int)] 41)).heap.size = w5.heap.size + 1 := by simp
          clear HT r0 r1 r2 hs3 hm3 hb3 hl3 hs5 hm5 hb5 hal6
          go_wp2_with fail
          simp only [Int.natCast_zero] at hx6 hs6 hm6 hb6 hz6 ⊢
          generalize w5.alloc (.cells #[.bool false, .int .u64 0, .slice ao5 R'.length cap5, .int .i64 A8, .int .i64 (a : Int)] 41) = w6 at *
          have hd : decide ((N : Int) ≤ 8 * (f : Int) - (a : Int)) = false := decide_eq_false (by omega)
          have HVL : Hid (∀ W, Calls Try.prog 23 #[.agg #[.slice ao5 R'.length cap5, .int .i64 A8, .int .i64 (a : Int)]] W fun e w' => e = .returned (.bool true) ∧ Below W.heap.size W w') := by
            intro W
            have h1 := svalid_any ao5 R'.length cap5 A8 (a : Int) W
            rw [HV.out] at h1
            exact h1
          obtain ⟨y0, y1, y2, y3, y4⟩ := hx6.all
          obtain ⟨r0, r1, r2⟩ := hs6.three
          have hw1 : IntKind.i64.wrap (8 * (f : Int) - (a : Int)) = 8 * (f : Int) - (a : Int) := by rw [IntKind.wrap_i64]; omega
          have hw4 : ((a : Int) != IntKind.i64.wrap ((a : Int) + IntKind.i64.wrap 0)) = false := by
            have h2 : IntKind.i64.wrap 0 = 0 := by rw [IntKind.wrap_i64]; omega
            have h3 : IntKind.i64.wrap ((a : Int) + 0) = (a : Int) := by rw [IntKind.wrap_i64]; omega
            rw [h2, h3]
            simp
          go_region_held3 (fun w' => w'.cell? ⟨w5.heap.size, 0, none⟩ = some (.bool false) ∧ w'.cell? ⟨w5.heap.size, 2, none⟩ = some (.slice ao5 R'.length cap5) ∧ w'.cell? ⟨w5.heap.size, 3, none⟩ = some (.int .i64 A8) ∧ w'.cell? ⟨w5.heap.size, 4, none⟩ = some (.int .i64 (a : Int)) ∧ w'.cell? ⟨w2.heap.size, 2, none⟩ = some (.int .i64 (a : Int)))
            (first | (refine ⟨?_, ?_, ?_, ?_, ?_⟩ <;> assumption) | (go_keep; done))
            (first | (go_at_call 23; refine (HVL.out _).mono ?_; rintro e w7 ⟨rfl, hb7⟩; have hb7' : Below w6.heap.size w6 w7 := ((Below.refl _ _).drew).trans hb7; obtain ⟨_, _, _, _, _⟩ := (hx6.grown (grownBy_of_below hb7' none) (by simp)).all; obtain ⟨_, _, _⟩ := (hs6.grown (grownBy_of_below hb7' none) (by simp)).three) | (go_at_call 24; refine (lwOne_any false _).mono ?_; rintro e w8 ⟨rfl, rfl⟩))
          have hx8 := hx6.grown (grownBy_of_below hb7' none) (by simp)
          have hs8 := hs6.grown (grownBy_of_below hb7' none) (by simp)
          have hm8 := hm6.below hb7'
          have hb8 := hb6.trans (hb7'.mono hb6.size)
          have hl8 : w5.heap.size < w8.heap.size := by have := hb7'.size; omega
          clear hx6 hs6 hm6 hb6 hb7' hb7 HVL y0 y1 y2 y3 y4 r0 r1 r2 hw1
          obtain ⟨k1, k2, k3⟩ := src_set hs8 (.slice ao5 R'.length cap5) A8 (a : Int)
          have hm9 := hm8.grown k2 (by intro k e; simp at e; subst e; exact hm8.far (by omega))
          have hb9 := hb8.grown k2 (by omega) (by intro k e; simp at e; omega)
          have hs8' := hs8
          obtain ⟨r0, r1, r2, f0, f1, f2⟩ := hs8'
          obtain ⟨y0, y1, y2, y3, y4⟩ := hx8.all
          have HK1 : Hid _ := k1
          have HM9 : Hid _ := hm9
          have HB9 : Hid _ := hb9
          have HK3 : Hid _ := k3
          clear k1 k2 k3 hm9 hb9 hs8 hm8 hb8 hx8
          go_wp2_with fail
          go_roundw
          case rel => exact ⟨k + 1, f, a, ao5, cap5, by omega, rfl, rfl, by go_num, ⟨by rw [HRR.out, HA8.out]; exact HK1.out, by rw [HRR.out]; exact HM9.out, HB9.out, HFE.out, by omega, by rw [HK3.out]; omega⟩⟩
          case measure => simp [intOf]; omega
      · have hs3 := HK.src
        have hb3 := HK.below
        have hvd := rd_vld zs f a hfz (by omega) hal
        obtain ⟨R', hR'⟩ : ∃ R', rd zs f a = R' := ⟨_, rfl⟩
        obtain ⟨A8, hA8⟩ : ∃ A8, ((a % 8 : Nat) : Int) = A8 := ⟨_, rfl⟩
        rw [hR', hA8] at hs3 hvd
        have HV : Hid _ := hvd
        clear HK hR' hA8 hfz hal hvd
        obtain ⟨r0, r1, r2⟩ := hs3.three
        clear hs3
        have hsz := hb3.size
        go_wp2_with fail
        refine (valid_any ao R'.length cp A8 (a : Int) _).mono ?_
        rintro e w9 ⟨rfl, hb9⟩
        rw [HV.out]
        go_wp2_with fail
        go_ret
        exact ⟨rfl, HW.below.trans ((hb3.trans (hb9.mono (by omega))).mono HW.below.size)⟩
end Go.Proofs.Ytmfacacpoajpgaa
