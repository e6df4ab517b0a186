import Derived.Test.YtmfacacpoajpgacDrawW
import Derived.Test.YtmfacacpoajpgacWinC
import Derived.Test.YtmfacacpoajpgacLwAt
namespace Go.Proofs.Ytmfacacpoajpgac
open Go.RowKit
attribute [local go_sem ↓] Go.wp_at_zero Go.wp_at_succ
set_option linter.unusedVariables false

theorem copyN_drop (T : List Int) (c dist : Nat) (hc : c ≤ T.length) (h : dist ≤ T.length - c) (i : Nat) : copyN (T.drop c) dist i = (copyN T dist i).drop c := by
  induction i with
  | zero => rfl
  | succ i ih =>
    have hl := copyN_len T dist i
    rw [copyN, copyN, ih, List.drop_append_of_le_length (by omega), getD_drop, List.length_drop]
    congr 3
    omega
theorem dataN_last (n : Nat) (T : List Int) (dist i : Nat) (h : dist ≤ (lastN n T).length) : dataN (lastN n T) dist i = dataN T dist i := by
  rw [lastN_len] at h
  unfold dataN
  rw [lastN_len, lastN, copyN_drop T (T.length - n) dist (by omega) (by omega), List.drop_drop]
  congr 1
  omega
theorem lastN_drop (n c : Nat) (Y : List Int) (h : c ≤ Y.length - n) : lastN n (Y.drop c) = lastN n Y := by
  unfold lastN
  rw [List.length_drop, List.drop_drop]
  congr 1
  omega
theorem copyN_last (n : Nat) (T : List Int) (dist i : Nat) (h : dist ≤ (lastN n T).length) : lastN n (copyN (lastN n T) dist i) = lastN n (copyN T dist i) := by
  rw [lastN_len] at h
  have e : copyN (lastN n T) dist i = (copyN T dist i).drop (T.length - n) := by rw [lastN, copyN_drop T (T.length - n) dist (by omega) (by omega)]
  rw [e]
  exact lastN_drop _ _ _ (by rw [copyN_len]; omega)
theorem row_three (w : World) (x y z : Int) (t : TypeId) : Row (w.alloc (.cells #[.int .u8 x, .int .u8 y, .int .u8 z] t)) (some ⟨w.heap.size, 0, none⟩) [x, y, z] := by
  refine Row.of fun i hi => ?_
  have h : i = 0 ∨ i = 1 ∨ i = 2 := by simp at hi; omega
  rcases h with rfl | rfl | rfl <;> simp [go_sem]

theorem own_blk (ao : Option Addr) (n c : Nat) : (Value.slice ao n c).ownBlock = blk ao := by cases ao <;> rfl

/-- What holds between the rounds. -/
structure WInv (w : World) (p s : Nat) (wx : World) (aT : Option Addr) (cT : Nat) (T : List Int) : Prop where
  own : OwnsB 5 (p + 1) wx aT cT T
  win : ∃ aW cW, Win wx p s (.slice aW (lastN s T).length cW) ∧ Mine w.heap.size wx aW cW (lastN s T) ∧ blk aW ≠ some p ∧ (∀ k, blk aT = some k → blk aW ≠ some k)
  bel : Below w.heap.size w wx
  low : w.heap.size ≤ p

/-- What holds within the copying loop. -/
structure CInv (w : World) (p s zy z5 : Nat) (vW v1 v2 : Value) (a1 : Option Addr) (c1 : Nat) (DD : List Int) (a2 : Option Addr) (c2 : Nat) (W2 : List Int) (wr : World) (ao : Option Addr) (cap : Nat) (D : List Int) : Prop where
  own : OwnsB 5 (p + 1) wr ao cap D
  far : ∀ q, blk ao = some q → q < zy ∨ z5 < q
  cpy : Cpy wr z5 true v1 s v2
  m1 : Mine zy wr a1 c1 DD
  m2 : Mine zy wr a2 c2 W2
  win : Win wr p s vW
  bel : Below w.heap.size w wr
theorem CInv.step {w : World} {p s zy z5 : Nat} {vW v1 v2 : Value} {a1 : Option Addr} {c1 : Nat} {DD : List Int} {a2 : Option Addr} {c2 : Nat} {W2 : List Int} {wr w' : World} {ao ao2 : Option Addr} {cap cap2 : Nat} {D D2 : List Int}
    (h : CInv w p s zy z5 vW v1 v2 a1 c1 DD a2 c2 W2 wr ao cap D) (o : Obj) (hg : (wr.alloc o).grownBy w' (blk ao)) (hat : blk ao2 = blk ao ∨ blk ao2 = some (wr.alloc o).heap.size) (ho : OwnsB 5 (p + 1) w' ao2 cap2 D2)
    (b1 : ∀ q, blk a1 = some q → zy ≤ q ∧ q < z5) (b2 : ∀ q, blk a2 = some q → zy ≤ q ∧ q < z5) (hp : p < zy) (hw : w.heap.size ≤ p) (hzz : zy ≤ z5) : CInv w p s zy z5 vW v1 v2 a1 c1 DD a2 c2 W2 w' ao2 cap2 D2 := by
  have hall : Below wr.heap.size wr (wr.alloc o) := (Below.refl _ _).alloc (Nat.le_refl _) _
  have hz : z5 < wr.heap.size := h.cpy.lt
  have hown : ∀ q, blk ao = some q → p < q := fun q e => by have := (blk_mine h.own.mine e).1; omega
  refine ⟨ho, ?_, (h.cpy.below hall).grown hg ?_, (h.m1.below hall).grown hg ?_, (h.m2.below hall).grown hg ?_, (h.win.below hall).grown hg ?_, ?_⟩
  · intro q e
    rcases hat with h1 | h1
    · exact h.far q (by rw [← h1]; exact e)
    · right; rw [e] at h1; simp at h1; omega
  · intro e; have := h.far _ e.symm; omega
  · intro k e h1; have := h.far _ e; have := b1 _ h1; omega
  · intro k e h1; have := h.far _ e; have := b2 _ h1; omega
  · intro e; have := hown _ e.symm; omega
  · have hb := h.bel.trans (hall.mono h.bel.size)
    exact hb.grown hg hb.size (by intro k e; have := hown _ e; omega)

theorem law_win_big1 (co mo : Option Addr) (n cc m cm : Nat) (w : World) (hbig : 1048576 < n) (hn : n ≤ 9223372036854775807) (hm : m ≤ 9223372036854775807) :
    Calls Try.prog 5 #[.slice co n cc, .slice mo m cm] w fun e w' => e = .returned (.bool true) ∧ Below w.heap.size w w' := by
  have d1 : decide (1048576 < (n : Int)) = true := decide_eq_true (by omega)
  go_enter Try.func5, Try.ntmps5
  go_wp2_with fail
  go_ret
  exact ⟨rfl, Below.refl _ _⟩
theorem law_win_big2 (co mo : Option Addr) (n cc m cm : Nat) (w : World) (hn : n ≤ 1048576) (hbig : 1048576 < m) (hm : m ≤ 9223372036854775807) :
    Calls Try.prog 5 #[.slice co n cc, .slice mo m cm] w fun e w' => e = .returned (.bool true) ∧ Below w.heap.size w w' := by
  have d1 : decide (1048576 < (n : Int)) = false := decide_eq_false (by omega)
  have d2 : decide (1048576 < (m : Int)) = true := decide_eq_true (by omega)
  go_enter Try.func5, Try.ntmps5
  go_wp2_with fail
  go_ret
  exact ⟨rfl, Below.refl _ _⟩

set_option maxRecDepth 100000 in
set_option maxHeartbeats 6400000 in
theorem law_win (co mo : Option Addr) (cc cm : Nat) (cs ms : List Int) (w : World) (hr : Row w co cs) (ho : Octets cs) (hl : cs.length ≤ 1048576) (hrm : Row w mo ms) (hom : Octets ms) (hlm : ms.length ≤ 1048576) :
    Calls Try.prog 5 #[.slice co cs.length cc, .slice mo ms.length cm] w fun e w' => e = .returned (.bool true) ∧ Below w.heap.size w w' := by
  obtain ⟨i0, hi, hz0, hz1, hz2⟩ := info_parts Try.info_u8s
  have d1 : decide (1048576 < (cs.length : Int)) = false := decide_eq_false (by omega)
  have d2 : decide (1048576 < (ms.length : Int)) = false := decide_eq_false (by omega)
  have HR := hide1 hr
  have HM := hide1 hrm
  have HO := hide1 ho
  have HOM := hide1 hom
  clear hr hrm ho hom
  go_enter Try.func5, Try.ntmps5
  go_wp2_with fail
  refine (drawWin_any co cc cs w HR.out HO.out hl).mono ?_
  rintro e w1 ⟨⟨s, ad, cd, d, rfl, s0, s1, hMd, hdl⟩, hb1⟩
  have HMD := hide1 hMd
  have HB1 := hide1 hb1
  have HN := hide1 (inew_any s d ad cd w1 hMd.arg)
  clear hMd hb1
  go_wp2_with fail
  refine Calls.mono HN.out ?_
  rintro e w2 ⟨⟨aW, cW, rfl, hoW⟩, hb2⟩
  by_cases hv : vsz s = true
  · obtain ⟨n, rfl, hn0, hn1⟩ := vsz_out hv
    simp only [hv, if_true, Int.toNat_natCast] at hoW ⊢
    have q1 : decide ((n : Int) < 1) = false := decide_eq_false (by omega)
    have q2 : decide (32768 < (n : Int)) = false := decide_eq_false (by omega)
    have hwl : (lastN n d).length ≤ n := by rw [lastN_len]; omega
    have hb0 : Below w2.heap.size w2 (w2.alloc (.cells #[.int .i64 n, .slice aW (lastN n d).length cW] 41)) := (Below.refl _ _).alloc (Nat.le_refl _) _
    have X3 := win_new w2 n (.slice aW (lastN n d).length cW) 41
    have MW3 := (hoW.mine.mono HB1.out.size).below hb0
    have MD3 := (HMD.out.below hb2).below hb0
    have hB3 : Below w.heap.size w (w2.alloc (.cells #[.int .i64 n, .slice aW (lastN n d).length cW] 41)) := (HB1.out.trans (hb2.mono HB1.out.size)).trans (hb0.mono (by have := HB1.out.size; have := hb2.size; omega))
    have hWp : ∀ k, blk aW = some k → k < w2.heap.size := fun k e => (blk_mine hoW.mine e).2
    have hz : w.heap.size ≤ w2.heap.size := by have := HB1.out.size; have := hb2.size; omega
    have hw3 : (w2.alloc (.cells #[.int .i64 n, .slice aW (lastN n d).length cW] 41)).heap.size = w2.heap.size + 1 := by simp
    clear hoW hb2 hb0 HMD HB1 HN hv
    go_upto_region 5 with fail
    generalize (w2.alloc (.cells #[.int .i64 n, .slice aW (lastN n d).length cW] 41)) = w3 at *
    have hw3' : w2.heap.size < w3.heap.size := by omega
    clear hw3
    have hd4 : Below w3.heap.size w3 (w3.alloc (.cells #[] 5)) := (Below.refl _ _).alloc (Nat.le_refl _) _
    have A4 := MD3.arg.below hd4
    have R4 := hide1 A4.row
    have N4 : Hid (ad = none → d.length = 0 ∧ cd = 0) := fun e => ⟨A4.row.none_len e, A4.bare e⟩
    have HD4 := hide1 hd4
    have HX3 := hide1 X3
    have HMW3 := hide1 MW3
    have HB3 := hide1 hB3
    have HWP := hide1 hWp
    clear A4 hd4 X3 MW3 MD3 hB3 hWp
    go_wp2_with (at_builtin; refine wpList_append_row _ rfl _ _ 37 rfl w3.heap.size 5 i0 (.int .u8 0) 1 Try.underlying37 hi hz0 hz1 hz2 rfl (.slice (some ⟨w3.heap.size, 0, none⟩) 0 0) 0 [] rfl (ownw0 _ _ _ _ (Nat.le_refl _) rfl) ad cd d rfl R4.out N4.out (by unfold maxLen; omega) (by omega) (by simp) ?_)
    intro v4 w4 hown hgrow hat
    obtain ⟨aT, cT, e4, ho4⟩ := OwnsB.of hown
    rw [e4]
    have hb4 : Below w3.heap.size w3 w4 := HD4.out.grown hgrow (by simp) (by intro k e; simp [Value.ownBlock] at e; omega)
    have hI : WInv w w2.heap.size n w4 aT cT d := ⟨ho4.mono (by omega), ⟨aW, cW, HX3.out.below hb4, HMW3.out.below hb4, fun e => by have := HWP.out _ e; omega, fun k e1 e2 => by have h1 := (blk_mine ho4.mine e1).1; have h2 := HWP.out k e2; omega⟩, HB3.out.trans (hb4.mono (by omega)), hz⟩
    clear hown hgrow hat e4 R4 N4 HD4 HX3 HMW3 HB3 HWP ho4 hb4
    go_wp2_with fail
    go_loopw [8, 9] (fun v i wr => ∃ (k : Nat) (T : List Int) (aT : Option Addr) (cT : Nat), k ≤ 8 ∧ i = .int .i64 k ∧ v = .slice aT T.length cT ∧ T.length ≤ 32769 + 30 * k ∧ WInv w w2.heap.size n wr aT cT T) (fun _ i _ => 8 - (intOf i).toNat)
    case atStart => exact ⟨0, d, aT, cT, by omega, rfl, rfl, by omega, hI⟩
    case round =>
      clear hI
      obtain ⟨k, T, aT, cT, hk, rfl, rfl, hTl, hI⟩ := hrel
      by_cases hlt : k < 8
      · have HI := hide1 hI
        clear hI
        obtain ⟨j, hj⟩ : ∃ j : Nat, 2 * (k : Int) = (j : Int) := ⟨2 * k, by omega⟩
        have hj1 : j ≤ 14 := by omega
        go_wp2_with fail
        refine (lwAt_any mo cm ms j _ (HM.out.below HI.out.bel) HOM.out (by omega)).mono ?_
        rintro e wx ⟨⟨x, rfl, hx⟩, rfl⟩
        obtain ⟨j2, hj2⟩ : ∃ j2 : Nat, (j : Int) + 1 = (j2 : Int) := ⟨j + 1, by omega⟩
        have hj3 : j2 ≤ 15 := by omega
        go_wp2_with fail
        refine (lwAt_any mo cm ms j2 _ (HM.out.below HI.out.bel) HOM.out (by omega)).mono ?_
        rintro e wy ⟨⟨y, rfl, hy⟩, rfl⟩
        obtain ⟨N, hN⟩ : ∃ N : Nat, 1 + (y : Int) % 30 = (N : Int) := ⟨1 + y % 30, by omega⟩
        have hN0 : 1 ≤ N := by omega
        have hN1 : N ≤ 30 := by omega
        obtain ⟨aW, cW, hX, hMW, hWp, hTW⟩ := HI.out.win
        obtain ⟨W, hW⟩ : ∃ W, lastN n T = W := ⟨_, rfl⟩
        rw [hW] at hX hMW
        have hWl : W.length ≤ n := by rw [← hW, lastN_len]; omega
        have hWl2 : W.length = min T.length n := by rw [← hW, lastN_len]
        have HWL2 := hide1 hWl2
        have HW := hide1 hW
        have HX := hide1 hX
        have HMW := hide1 hMW
        have HWP := hide1 hWp
        have HTW := hide1 hTW
        clear hW hX hMW hWp hTW hWl2
        go_upto_if 68 with fail
        go_cut [8, 12, 13, 14, 15, 16] from 51 to 152 (fun v _ _ _ _ _ wx => ∃ (T' : List Int) (aT' : Option Addr) (cT' : Nat), v = .slice aT' T'.length cT' ∧ T'.length ≤ 32769 + 30 * (k + 1) ∧ WInv w w2.heap.size n wx aT' cT' T')
        case first =>
          by_cases hpar : x % 2 = 0
          · have hpb : (((x : Int) % 2) == 0) = true := by simp; omega
            have hall : Below wy.heap.size wy (wy.alloc (.cells #[.int .u8 x, .int .u8 N, .int .u8 k] 5)) := (Below.refl _ _).alloc (Nat.le_refl _) _
            have HOT := hide1 (HI.out.own.below hall)
            have HR3 := hide1 (row_three wy x N k 5)
            have HX1 := hide1 (HX.out.below hall)
            have HMW1 := hide1 (HMW.out.below hall)
            have HB1 := hide1 (HI.out.bel.trans (hall.mono HI.out.bel.size))
            have zp := HX.out.lt
            have zw := HI.out.low
            have hbs : w2.heap.size + 1 ≤ wy.heap.size := by omega
            have hWyz : ∀ q, blk aW = some q → q < wy.heap.size := fun q e => (blk_mine HMW.out e).2
            have HWYZ := hide1 hWyz
            clear hall hWyz
            go_wp2_with (at_builtin; refine wpList_append_row _ rfl _ _ 37 rfl (w2.heap.size + 1) 5 i0 (.int .u8 0) 1 Try.underlying37 hi hz0 hz1 hz2 rfl (.slice aT T.length cT) T.length (T.map (Value.int .u8)) rfl HOT.out (some ⟨wy.heap.size, 0, none⟩) 3 [(x : Int), (N : Int), (k : Int)] rfl HR3.out (fun e => by cases e) (by unfold maxLen; simp; omega) (by simp; omega) (by simp; omega) ?_)
            intro v5 w5 hown hgrow hat
            obtain ⟨D3, hD3⟩ : ∃ D3 : List Int, [(x : Int), (N : Int), (k : Int)] = D3 := ⟨_, rfl⟩
            have hD3l : D3.length = 3 := by rw [← hD3]; rfl
            obtain ⟨T2, hT2⟩ : ∃ T2, T ++ D3 = T2 := ⟨_, rfl⟩
            have hT2l : T2.length = T.length + 3 := by rw [← hT2, List.length_append, hD3l]
            have hown' : w5.ownsRow (w2.heap.size + 1) 5 1 v5 T2.length (T2.map (Value.int .u8)) := by rw [hT2l, ← hT2, ← hD3]; simpa using hown
            obtain ⟨aT2, cT2, e5, ho5⟩ := OwnsB.of hown'
            rw [e5]
            rw [own_blk] at hgrow hat
            have hat2 : ∀ q, blk aT2 = some q → blk aT = some q ∨ wy.heap.size < q := by
              intro q e
              rw [e5, own_blk] at hat
              rcases hat with h | h
              · left; rw [← h]; exact e
              · right; rw [e] at h; simp at h; omega
            have hpT : some w2.heap.size ≠ blk aT := fun e => by have := (blk_mine HOT.out.mine e.symm).1; omega
            have X5 := HX1.out.grown hgrow hpT
            have M5 := HMW1.out.grown hgrow (by intro q e h; exact HTW.out q e h)
            have B5 := HB1.out.grown hgrow HB1.out.size (by intro q e; have := (blk_mine HOT.out.mine e).1; omega)
            have R5 : Row w5 (some ⟨wy.heap.size, 0, none⟩) D3 := by
              have h3 := HR3.out
              rw [hD3] at h3
              refine h3.grown hgrow ?_
              intro ad e h
              simp only [Option.some.injEq] at e
              subst e
              have h1 := HI.out.own.mine.lies
              cases aT with
              | none => cases h
              | some a0 => have := (h1 a0 rfl).2.1; simp [blk] at h; omega
            have z5 : wy.heap.size < w5.heap.size := by have := hgrow.size; simp at this; omega
            have A5 : Arg w5 (some ⟨wy.heap.size, 0, none⟩) 3 D3 := ⟨R5, by omega, by unfold maxLen; omega, fun ad e => by simp only [Option.some.injEq] at e; subst e; exact z5, fun e => by cases e⟩
            have hvv : vwin W.length (n : Int) = true := (vwin_true ⟨by omega, by omega, by omega⟩).symm
            have HP := hide1 (iput_any (n : Int) W D3 aW cW (some ⟨wy.heap.size, 0, none⟩) 3 w5 M5.arg A5 (by omega) (by omega))
            simp only [hvv, if_true, Int.toNat_natCast, hD3l] at HP
            have hE : lastN n (W ++ D3) = lastN n T2 := by rw [← HW.out, lastN_lastN, hT2]
            rw [hE] at HP
            obtain ⟨W2, hW2⟩ : ∃ W2, lastN n T2 = W2 := ⟨_, rfl⟩
            rw [hW2] at HP
            obtain ⟨x0, x1, f0, f1⟩ := X5
            have HX5 := hide1 (show Win w5 w2.heap.size n (.slice aW W.length cW) from ⟨x0, x1, f0, f1⟩)
            have HO5 := hide1 ho5
            have HB5 := hide1 B5
            have HW2 := hide1 hW2
            have HAT := hide1 hat2
            have hT2n : T2.length ≤ 32769 + 30 * (k + 1) := by omega
            clear hown hown' hgrow hat e5 HOT HR3 HX1 HMW1 HB1 ho5 M5 B5 R5 A5 hE hW2 hat2 hT2l hT2 hD3 hD3l hpT
            go_wp2_with fail
            refine Calls.mono HP.out ?_
            rintro e w6 ⟨⟨aW6, cW6, rfl, ho6⟩, hb6⟩
            obtain ⟨k3, k4⟩ := win_set (HX5.out.below hb6) (n : Int) (.slice aW6 W2.length cW6)
            obtain ⟨y0, y1, g0, g1⟩ := HX5.out.below hb6
            have zz := HX5.out.lt
            have hfin : WInv w w2.heap.size n ((w6.setCell ⟨w2.heap.size, 0, none⟩ (.int .i64 n)).setCell ⟨w2.heap.size, 1, none⟩ (.slice aW6 W2.length cW6)) aT2 cT2 T2 := by
              refine ⟨(HO5.out.below hb6).grown k4 (by intro q e; simp at e; subst e; exact HO5.out.mine.far (by omega)), ⟨aW6, cW6, by rw [HW2.out]; exact k3, by rw [HW2.out]; exact (ho6.mine.mono (by omega)).grown k4 (by intro q e; simp at e; subst e; exact ho6.mine.far (by omega)), ho6.mine.far (by omega), ?_⟩, ?_, zw⟩
              · intro q e1 e2
                have h1 := (blk_mine HO5.out.mine e1).2
                have h2 := (blk_mine ho6.mine e2).1
                omega
              · have h1 := HB5.out.trans (hb6.mono HB5.out.size)
                exact h1.grown k4 h1.size (by intro q e; simp at e; omega)
            clear HP hb6 ho6 k3 k4 x0 x1 f0 f1
            go_wp2_with fail
            go_meet
            exact ⟨T2, aT2, cT2, rfl, hT2n, hfin⟩
          · have hpb : (((x : Int) % 2) == 0) = false := by simp; omega
            obtain ⟨dd, hdd⟩ : ∃ dd : Nat, 1 + (x : Int) / 2 % 16 = (dd : Int) := ⟨1 + x / 2 % 16, by omega⟩
            have hdd0 : 1 ≤ dd := by omega
            have hdd1 : dd ≤ 16 := by omega
            have zp := HX.out.lt
            have zw := HI.out.low
            obtain ⟨x0, x1⟩ := HX.out.two
            go_upto_if 90 with fail
            go_cut [14] from 51 to 152 (fun v wx => v = .int .i64 (W.length : Nat) ∧ wx = wy)
            case first =>
              by_cases hlen : T.length ≤ n
              · have e : W.length = T.length := by rw [HWL2.out]; omega
                have dl : decide ((n : Int) < (T.length : Int)) = false := decide_eq_false (by omega)
                have HE := hide1 e
                clear e
                go_wp2_with fail
                go_meet
                exact ⟨by rw [HE.out], rfl⟩
              · have e : W.length = n := by rw [HWL2.out]; omega
                have dl : decide ((n : Int) < (T.length : Int)) = true := decide_eq_true (by omega)
                have HE := hide1 e
                clear e
                go_wp2_with fail
                go_meet
                exact ⟨by rw [HE.out], rfl⟩
            case rest =>
              obtain ⟨rfl, hwc⟩ := hcut
              subst hwc
              by_cases hdW : dd ≤ W.length
              · have hvc : vcpy W.length (n : Int) (dd : Int) (N : Int) = true := by
                  simp only [vcpy, Bool.and_eq_true, decide_eq_true_eq]
                  exact ⟨(vwin_true ⟨by omega, by omega, by omega⟩).symm, by omega, by omega, by omega, by omega⟩
                have hvv : vwin W.length (n : Int) = true := (vwin_true ⟨by omega, by omega, by omega⟩).symm
                have HC := hide1 (icopy_yes n dd N W aW cW wc HMW.out.arg (by omega) (by omega) hWl hdd0 hdW hN0 (by omega) hvv)
                obtain ⟨DD, hDD⟩ : ∃ DD, dataN W dd N = DD := ⟨_, rfl⟩
                obtain ⟨W2, hW2⟩ : ∃ W2, lastN n (copyN W dd N) = W2 := ⟨_, rfl⟩
                rw [hDD, hW2] at HC
                have hDDl : DD.length = N := by rw [← hDD, dataN_len]
                rw [← HW.out, copyN_last n T dd N (by rw [HW.out]; exact hdW)] at hW2
                rw [← HW.out, dataN_last n T dd N (by rw [HW.out]; exact hdW)] at hDD
                have HDD := hide1 hDD
                have HW2 := hide1 hW2
                have dc : decide ((dd : Int) ≤ (W.length : Int)) = true := decide_eq_true (by omega)
                clear hDD hW2 hvc hvv
                go_wp2_with fail
                refine Calls.mono HC.out ?_
                rintro e w5 ⟨⟨a1, c1, a2, c2, rfl, M1, M2, hap⟩, hb5⟩
                rw [hDDl]
                have b1 : ∀ q, blk a1 = some q → wc.heap.size ≤ q ∧ q < w5.heap.size := fun q e => blk_mine M1 e
                have b2 : ∀ q, blk a2 = some q → wc.heap.size ≤ q ∧ q < w5.heap.size := fun q e => blk_mine M2 e
                have z5 : wc.heap.size ≤ w5.heap.size := hb5.size
                have hall : Below w5.heap.size w5 (w5.alloc (.cells #[.bool true, .slice a1 N c1, .int .i64 n, .slice a2 W2.length c2] 47)) := (Below.refl _ _).alloc (Nat.le_refl _) _
                have HCI : Hid (CInv w w2.heap.size n wc.heap.size w5.heap.size (.slice aW W.length cW) (.slice a1 N c1) (.slice a2 W2.length c2) a1 c1 DD a2 c2 W2 (w5.alloc (.cells #[.bool true, .slice a1 N c1, .int .i64 n, .slice a2 W2.length c2] 47)) aT cT T) := by
                  refine ⟨(HI.out.own.below hb5).below hall, fun q e => .inl (blk_mine HI.out.own.mine e).2, cpy_new _ _ _ _ _ _, M1.below hall, M2.below hall, (HX.out.below hb5).below hall, ?_⟩
                  have h1 := HI.out.bel.trans (hb5.mono HI.out.bel.size)
                  exact h1.trans (hall.mono h1.size)
                have B1 := hide1 b1
                have B2 := hide1 b2
                clear M1 M2 hb5 hall b1 b2 HC x0 x1
                go_upto_region 22 with fail
                generalize (w5.alloc (.cells #[.bool true, .slice a1 N c1, .int .i64 n, .slice a2 W2.length c2] 47)) = w6 at *
                obtain ⟨r0, r1, r2, r3⟩ := HCI.out.cpy.four
                go_wp2_with fail
                clear r0 r1 r2 r3
                go_loopw [8, 16] (fun v i wr => ∃ (q : Nat) (D : List Int) (ao' : Option Addr) (cap' : Nat), q ≤ N ∧ i = .int .i64 q ∧ v = .slice ao' D.length cap' ∧ Hid (D = copyN T dd q) ∧ CInv w w2.heap.size n wc.heap.size w5.heap.size (.slice aW W.length cW) (.slice a1 N c1) (.slice a2 W2.length c2) a1 c1 DD a2 c2 W2 wr ao' cap' D) (fun _ i _ => N - (intOf i).toNat)
                case atStart => exact ⟨0, T, aT, cT, Nat.zero_le _, rfl, rfl, (rfl : T = copyN T dd 0), HCI.out⟩
                case round =>
                  clear HCI
                  obtain ⟨q, D, ao', cap', hq, rfl, rfl, HD, hCI⟩ := hrel
                  have hDl1 : D.length ≤ T.length + q := by rw [HD.out, copyN_len]; omega
                  have hDl2 : T.length + q ≤ D.length := by rw [HD.out, copyN_len]; omega
                  have hWT : W.length ≤ T.length := by rw [HWL2.out]; omega
                  by_cases hlq : q < N
                  · obtain ⟨jj, hjj⟩ : ∃ jj : Nat, (D.length : Int) - (dd : Int) = (jj : Int) := ⟨D.length - dd, by omega⟩
                    have hjD : jj < D.length := by omega
                    obtain ⟨b, off, rfl, hcell⟩ := hCI.own.mine.row.at hjD
                    have hcj := hcell jj hjD
                    have hxx : D.getD jj 0 = (copyN T dd q).getD ((copyN T dd q).length - dd) 0 := by rw [← HD.out]; congr 1; omega
                    generalize hXX : D.getD jj 0 = xx at *
                    have HXX := hide1 hxx
                    have hball : Below wr.heap.size wr (wr.alloc (.cells #[.int .u8 xx] 5)) := (Below.refl _ _).alloc (Nat.le_refl _) _
                    have HO1 := hide1 (hCI.own.below hball)
                    have HR1 := hide1 (row_one wr xx 5)
                    have HCI := hide1 hCI
                    have hbs : w2.heap.size + 1 ≤ wr.heap.size := by have := hCI.win.lt; omega
                    clear hcell hxx hXX hball hCI
                    go_wp2_with (at_builtin; refine wpList_append_row _ rfl _ _ 37 rfl (w2.heap.size + 1) 5 i0 (.int .u8 0) 1 Try.underlying37 hi hz0 hz1 hz2 rfl (.slice (some ⟨b, off, none⟩) D.length cap') D.length (D.map (Value.int .u8)) rfl HO1.out (some ⟨wr.heap.size, 0, none⟩) 1 [xx] rfl HR1.out (fun e => by cases e) (by unfold maxLen; simp; omega) (by simp; omega) (by simp; omega) ?_)
                    intro v7 w7 hown hgrow hat
                    have e1 : D.map (Value.int .u8) ++ [Value.int .u8 xx] = (D ++ [xx]).map (Value.int .u8) := by simp
                    have e2 : D.length + 1 = (D ++ [xx]).length := by simp
                    rw [e1, e2] at hown
                    obtain ⟨D2, hD2⟩ : ∃ D2, D ++ [xx] = D2 := ⟨_, rfl⟩
                    rw [hD2] at hown
                    have HD2 : Hid (D2 = copyN T dd (q + 1)) := by show _ = _; rw [← hD2, HD.out, HXX.out]; rfl
                    obtain ⟨ao7, cap7, e7, ho7⟩ := OwnsB.of hown
                    rw [e7]
                    rw [own_blk] at hgrow
                    rw [e7, own_blk, own_blk] at hat
                    have hC7 := HCI.out.step _ hgrow (by simpa using hat) ho7 B1.out B2.out (by omega) zw z5
                    clear hown hgrow hat e7 e1 e2 hD2 HO1 HR1 HCI HXX hcj
                    go_wp2_with fail
                    go_roundw
                    case rel => exact ⟨q + 1, D2, ao7, cap7, by omega, by go_num, rfl, HD2, hC7⟩
                    case measure => simp [intOf]; omega
                  · have hqN : q = N := by omega
                    have hfit := hCI.own.mine.fits
                    have hmost := hCI.own.mine.most
                    unfold maxLen at hmost
                    have hcn : ¬ cap' = T.length := by omega
                    have hsub : D.length - T.length = N := by omega
                    have hsubi : (D.length : Int) - (N : Int) = (T.length : Int) := by omega
                    have HE : Hid (D.drop T.length = DD) := by show _ = _; rw [HD.out, hqN]; exact HDD.out
                    obtain ⟨ao2, hE2, hsl2, hrow2⟩ := run_cut ao' D cap' T.length (by omega) hfit
                    rw [if_neg hcn] at hE2
                    have hrow := hrow2 wr hCI.own.mine.row
                    rw [HE.out] at hrow
                    have hi1 : (0 : Int) ≤ (T.length : Int) := by omega
                    have hi2 : (T.length : Int) ≤ (D.length : Int) := by omega
                    have hwr : IntKind.i64.wrap (T.length : Int) = (T.length : Int) := by rw [IntKind.wrap_i64]; omega
                    have HLW := hide1 (lwBytes_same a1 ao2 c1 (cap' - T.length) DD wr.drew hCI.m1.row hrow)
                    clear hrow2
                    rw [hDDl] at HLW
                    have HCD : Hid (CInv w w2.heap.size n wc.heap.size w5.heap.size (.slice aW W.length cW) (.slice a1 N c1) (.slice a2 W2.length c2) a1 c1 DD a2 c2 W2 wr.drew ao' cap' D) := ⟨hCI.own, hCI.far, hCI.cpy, hCI.m1.below (Below.refl _ _).drew, hCI.m2.below (Below.refl _ _).drew, hCI.win, hCI.bel.drew⟩
                    have hWD : lastN n D = W2 := by rw [HD.out, hqN]; exact HW2.out
                    have HWD := hide1 hWD
                    obtain ⟨r0, r1, r2, r3⟩ := hCI.cpy.four
                    have hT2n : D.length ≤ 32769 + 30 * (k + 1) := by omega
                    clear hrow hCI hWD
                    go_wp2_with fail
                    go_region_held3 (fun w' => w'.cell? ⟨w5.heap.size, 1, none⟩ = some (.slice a1 N c1))
                      (first | with_reducible assumption | (go_keep; done))
                      ((go_at_call 26; refine Calls.mono HLW.out ?_; rintro e wz ⟨rfl, rfl⟩))
                    clear r0 r1 r2 r3 HLW
                    generalize wr.drew = wd at *
                    obtain ⟨r0, r1, r2, r3⟩ := HCD.out.cpy.four
                    obtain ⟨k3, k4⟩ := win_set HCD.out.win (n : Int) (.slice a2 W2.length c2)
                    obtain ⟨y0, y1, g0, g1⟩ := HCD.out.win
                    have hfin : WInv w w2.heap.size n ((wd.setCell ⟨w2.heap.size, 0, none⟩ (.int .i64 n)).setCell ⟨w2.heap.size, 1, none⟩ (.slice a2 W2.length c2)) ao' cap' D := by
                      refine ⟨HCD.out.own.grown k4 (by intro t e; simp at e; subst e; exact HCD.out.own.mine.far (by omega)), ⟨a2, c2, by rw [HWD.out]; exact k3, by rw [HWD.out]; exact (HCD.out.m2.mono (by omega)).grown k4 (by intro t e h; simp at e; subst e; have := B2.out _ h; omega), fun e => by have := B2.out _ e; omega, fun t e1 e2 => by have h1 := HCD.out.far t e1; have h2 := B2.out t e2; omega⟩, ?_, zw⟩
                      exact HCD.out.bel.grown k4 HCD.out.bel.size (by intro t e; simp at e; omega)
                    clear HCD k3 k4
                    go_wp2_with fail
                    go_meet
                    exact ⟨D, ao', cap', rfl, hT2n, hfin⟩
              · have hvc : vcpy W.length (n : Int) (dd : Int) (N : Int) = false := by
                  simp only [vcpy, Bool.and_eq_false_iff, decide_eq_false_iff_not]
                  right; omega
                have HC := hide1 (icopy_no (n : Int) (dd : Int) (N : Int) W aW cW wc (by omega) hvc)
                have dc : decide ((dd : Int) ≤ (W.length : Int)) = false := decide_eq_false (by omega)
                go_wp2_with fail
                refine Calls.mono HC.out ?_
                rintro e w5 ⟨⟨a1, c1, a2, c2, rfl, M1, M2, hap⟩, hb5⟩
                have hall : Below w5.heap.size w5 (w5.alloc (.cells #[.bool false, .slice a1 0 c1, .int .i64 0, .slice a2 0 c2] 47)) := (Below.refl _ _).alloc (Nat.le_refl _) _
                have hb6 : Below wc.heap.size wc (w5.alloc (.cells #[.bool false, .slice a1 0 c1, .int .i64 0, .slice a2 0 c2] 47)) := hb5.trans (hall.mono hb5.size)
                have hfin : WInv w w2.heap.size n (w5.alloc (.cells #[.bool false, .slice a1 0 c1, .int .i64 0, .slice a2 0 c2] 47)) aT cT T := ⟨HI.out.own.below hb6, ⟨aW, cW, by rw [HW.out]; exact HX.out.below hb6, by rw [HW.out]; exact HMW.out.below hb6, HWP.out, HTW.out⟩, HI.out.bel.trans (hb6.mono HI.out.bel.size), zw⟩
                clear M1 M2 hb5 hall hb6 HC x0 x1
                go_wp2_with fail
                go_meet
                exact ⟨T, aT, cT, rfl, by omega, hfin⟩
        case rest =>
          obtain ⟨T', aT', cT', rfl, hTl', hI'⟩ := hcut
          have HI' := hide1 hI'
          obtain ⟨aV, cV, hX', hM', _, _⟩ := hI'.win
          have hfit := hI'.own.mine.fits
          have hmost := hI'.own.mine.most
          unfold maxLen at hmost
          have HRT := hide1 hI'.own.mine.row
          have HRV := hide1 hM'.row
          have hnn : ((n : Int) != (n : Int)) = false := by simp
          clear hI' hM' HX HMW HWP HTW HW HWL2 HI
          by_cases hlen : T'.length ≤ n
          · have eW : lastN n T' = T' := lastN_all hlen
            rw [eW] at hX' HRV
            obtain ⟨y0, y1⟩ := hX'.two
            have dl : decide ((n : Int) < (T'.length : Int)) = false := decide_eq_false (by omega)
            clear eW hX'
            go_wp2_with fail
            refine (lwBytes_same aV aT' cV cT' T' _ HRV.out HRT.out).mono ?_
            rintro e wz ⟨rfl, rfl⟩
            go_wp2_with fail
            go_roundw
            case rel => exact ⟨k + 1, T', aT', cT', by omega, by go_num, rfl, hTl', HI'.out⟩
            case measure => simp [intOf]; omega
          · have hrow := HRT.out.last (k := T'.length - n) (by omega)
            have eW : T'.drop (T'.length - n) = lastN n T' := rfl
            rw [eW] at hrow
            have hVl : (lastN n T').length = n := by rw [lastN_len]; omega
            obtain ⟨V, hV⟩ : ∃ V, lastN n T' = V := ⟨_, rfl⟩
            rw [hV] at hrow hVl hX' HRV
            rw [hVl] at hX'
            obtain ⟨y0, y1⟩ := hX'.two
            have HROW := hide1 hrow
            have dl : decide ((n : Int) < (T'.length : Int)) = true := decide_eq_true (by omega)
            have hcn : ¬ cT' = T'.length - n := by omega
            have hsub : T'.length - (T'.length - n) = n := by omega
            have HVL := hide1 hVl
            have HLW := hide1 (lwBytes_same aV (aT'.map (·.add (T'.length - n))) cV (cT' - (T'.length - n)) V wc HRV.out HROW.out)
            rw [hVl] at HLW
            clear eW hX' hrow hV hVl
            go_wp2_with fail
            refine Calls.mono HLW.out ?_
            rintro e wz ⟨rfl, rfl⟩
            go_wp2_with fail
            go_roundw
            case rel => exact ⟨k + 1, T', aT', cT', by omega, by go_num, rfl, hTl', HI'.out⟩
            case measure => simp [intOf]; omega
      · have e : k = 8 := by omega
        subst e
        go_wp2_with fail
        go_ret
        exact ⟨rfl, hI.bel⟩
  · have hv : vsz s = false := by simpa using hv
    simp only [hv] at hoW ⊢
    have hoW' : OwnsB 5 w1.heap.size w2 aW cW [] := hoW
    have hnv : ¬ (1 ≤ s ∧ s ≤ 32768) := of_decide_eq_false hv
    have hzz : w.heap.size ≤ w2.heap.size := by have := HB1.out.size; have := hb2.size; omega
    have hB3 : Below w.heap.size w (w2.alloc (.cells #[.int .i64 0, .slice aW 0 cW] 41)) := (HB1.out.trans (hb2.mono HB1.out.size)).alloc hzz _
    have hvf : vwin 0 0 = false := rfl
    have HV := hide1 (fun W => ivalid_any aW 0 cW 0 W)
    have HB3 := hide1 hB3
    clear hoW hoW' hb2 HMD HB1 HN hB3
    by_cases c1 : s < 1
    · have q1 : decide (s < 1) = true := decide_eq_true c1
      go_wp2_with fail
      refine Calls.mono (HV.out _) ?_
      rintro e w5 ⟨rfl, hb5⟩
      rw [hvf]
      have hbE := HB3.out.trans (hb5.mono (by simp; omega))
      clear hb5
      go_wp2_with fail
      go_ret
      exact ⟨rfl, hbE⟩
    · have q1 : decide (s < 1) = false := decide_eq_false c1
      have q2 : decide (32768 < s) = true := decide_eq_true (by omega)
      go_wp2_with fail
      refine Calls.mono (HV.out _) ?_
      rintro e w5 ⟨rfl, hb5⟩
      rw [hvf]
      have hbE := HB3.out.trans (hb5.mono (by simp; omega))
      clear hb5
      go_wp2_with fail
      go_ret
      exact ⟨rfl, hbE⟩
end Go.Proofs.Ytmfacacpoajpgac
