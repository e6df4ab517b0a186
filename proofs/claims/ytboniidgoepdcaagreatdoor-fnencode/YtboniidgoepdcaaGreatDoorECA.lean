import Derived.Test.YtboniidgoepdcaaGreatDoorRows
import Derived.Test.YtboniidgoepdcaaGreatDoorCards
import Derived.Test.YtboniidgoepdcaaGreatDoorTie
import Derived.WalkKit
import Derived.ProofKit
import Derived.OpenShut
import Derived.OpenVars
import Derived.ShutString
import Derived.ChangeOld
import Derived.ChangeVars
import Derived.Below
import Derived.LaidLaws
import Derived.LaidHandle
import Derived.LaidMore
import Derived.SevenTiedAt
import Derived.Stop.Joined
import Derived.Lib.SmallJoins
import Derived.Test.YtboniidgoepdcaaGreatDoorEAC
import Derived.Test.YtboniidgoepdcaaGreatDoorEAL
import Derived.Test.YtboniidgoepdcaaGreatDoorEAN
import Derived.Test.YtboniidgoepdcaaGreatDoorEAR
import Derived.Test.YtboniidgoepdcaaGreatDoorEBW
import Derived.Test.YtboniidgoepdcaaGreatDoorEBY
import Derived.Test.YtboniidgoepdcaaGreatDoorEBZ
namespace Go.Proofs.YtboniidgoepdcaaGreatDoor
open Go.RowKit
attribute [local go_sem ↓] Go.wp_at_zero Go.wp_at_succ
set_option linter.unusedVariables false

theorem IEnds.detE {s : Nat} {zs : List Int} {c cf cf' : IC} {k k' : Int} (h : IEnds s zs c k cf) (h' : IEnds s zs c k' cf') : k = k' ∧ cf = cf' := by
  obtain ⟨n, hn⟩ := h
  induction n generalizing c with
  | zero => exact hn.elim
  | succ n ih =>
    rcases hn with ⟨h1, rfl, rfl⟩ | ⟨h1, hs⟩ | ⟨h1, c', hs, h3⟩
    · rcases h'.cut with ⟨_, rfl, rfl⟩ | ⟨h2, _⟩ | ⟨h2, _⟩
      · exact ⟨rfl, rfl⟩
      · exact absurd h2 h1
      · exact absurd h2 h1
    · obtain ⟨e1, e2⟩ := h'.stop h1 hs
      exact ⟨e1.symm, e2.symm⟩
    · exact ih (h'.step h1 hs) h3
theorem blkS_oct (l : Nat) (hl : l ≤ 1) (d : List Int) (hd : Octets d) : Octets (blkS (l : Int) d) := by
  intro z hz
  unfold blkS headS at hz
  rcases List.mem_append.1 hz with h | h
  · simp only [List.mem_cons, List.not_mem_nil, or_false] at h
    rcases h with h | h | h | h | h <;> (subst h; omega)
  · exact hd z h
theorem encS_oct (P : Nat) (h0 : 0 < P) : ∀ (n : Nat) (zs : List Int), zs.length ≤ n → Octets zs → Octets (encS P zs) := by
  intro n
  induction n with
  | zero =>
    intro zs hn hz
    rw [encS_last (by omega)]
    exact blkS_oct 1 (by decide) zs hz
  | succ n ih =>
    intro zs hn hz
    by_cases h : zs.length ≤ P
    · rw [encS_last h]
      exact blkS_oct 1 (by decide) zs hz
    · rw [encS_more h0 (by omega)]
      intro z hm
      rcases List.mem_append.1 hm with h1 | h1
      · exact blkS_oct 0 (by decide) (zs.take P) (fun y hy => hz y (List.mem_of_mem_take hy)) z h1
      · exact ih (zs.drop P) (by rw [List.length_drop]; omega) (fun y hy => hz y (List.mem_of_mem_drop hy)) z h1
theorem en_inflS (zs A : List Int) (P : Nat) (h0 : 0 < P) (hp : P ≤ 65535) (hz : Octets zs) (hl : zs.length < 30) (hA : encS P zs = A) (aA : Option Addr) (cA ge : Nat) (W : World) (hr : Row W aA A) (hnil : aA = none → A.length = 0 ∧ cA = 0) (he : ge < W.heap.size) (hG : Glob W) :
    Calls Tryz.prog 9 #[.slice aA A.length cA, .int .i64 32768, .slice (some ⟨ge, 0, none⟩) 0 0] W fun e w' => InfIs 1 zs ((8 * A.length : Nat) : Int) e W w' := by
  subst hA
  have hlen := encS_len P h0 zs.length zs (Nat.le_refl _)
  have hoct := encS_oct P h0 zs.length zs (Nat.le_refl _) hz
  refine Calls.mono (iinflate_any aA (some ⟨ge, 0, none⟩) cA 0 (encS P zs) [] 32768 W hr hnil hoct (by omega) (by decide) (by decide) (Row.nil _ _) (Nat.le_refl _) (by unfold maxLen; omega) (fun ad e => by cases e; exact he) hG) ?_
  rintro e w' ⟨k', cf', hE', h⟩
  obtain ⟨cf, hE, hL1, hL2⟩ := st_all 32768 P h0 hp zs (by omega) hoct
  obtain ⟨rfl, rfl⟩ := hE.detE hE'
  rw [hL1] at h
  unfold iRes at h
  rw [if_pos rfl, hL2] at h
  exact h
theorem en_inflF (zs A : List Int) (F : Nat) (hz : Octets zs) (hl : zs.length < 30) (hA : pk (fixAll zs) = A) (hF : (fixAll zs).length = F) (hF2 : F ≤ 1000) (aA : Option Addr) (cA ge : Nat) (W : World) (hr : Row W aA A) (hnil : aA = none → A.length = 0 ∧ cA = 0) (he : ge < W.heap.size) (hG : Glob W) :
    Calls Tryz.prog 9 #[.slice aA A.length cA, .int .i64 1, .slice (some ⟨ge, 0, none⟩) 0 0] W fun e w' => InfIs 1 zs ((F : Nat) : Int) e W w' := by
  subst hA
  have hlen := pk_len (fixAll zs)
  refine Calls.mono (iinflate_any aA (some ⟨ge, 0, none⟩) cA 0 (pk (fixAll zs)) [] 1 W hr hnil (pk_octets _ (fixAll_bin zs)) (by omega) (by decide) (by decide) (Row.nil _ _) (Nat.le_refl _) (by unfold maxLen; omega) (fun ad e => by cases e; exact he) hG) ?_
  rintro e w' ⟨k', cf', hE', h⟩
  obtain ⟨cf, hE, hL1, hL2⟩ := fx_all zs hz (by omega)
  obtain ⟨rfl, rfl⟩ := hE.detE hE'
  rw [hL1] at h
  unfold iRes at h
  rw [if_pos rfl, hL2, hF] at h
  exact h
theorem lawEn_big (co : Option Addr) (n cc : Nat) (w : World) (hn : n ≤ 9223372036854775807) (hbig : 1048576 < n) :
    Calls Tryz.prog 4 #[.slice co n cc] w fun e w' => e = .returned (.bool true) ∧ Below w.heap.size w w' := by
  go_enter Tryz.func4, Tryz.ntmps4
  go_wp2_with fail
  go_ret
  exact ⟨rfl, Below.refl _ _⟩
set_option maxRecDepth 100000 in
set_option maxHeartbeats 25600000 in
theorem lawEn (co : Option Addr) (cc : Nat) (cs : List Int) (w : World) (hr : Row w co cs) (hoct : Octets cs) (hn : cs.length ≤ 1048576) (hG : Glob w) :
    Calls Tryz.prog 4 #[.slice co cs.length cc] w fun e w' => e = .returned (.bool true) ∧ Below w.heap.size w w' := by
  have HG := hideM hG
  have hGs := hG.sz
  have DR := hideM (drawES_any co cc cs w hr hoct hn)
  clear hr hoct hG
  go_enter Tryz.func4, Tryz.ntmps4
  go_wp2_with fail
  refine Calls.mono DR.out ?_
  rintro e w1 ⟨aD, cD, zs, per, rfl, hoD, hocD, hlD, hper, hb1⟩
  have D1 := hideM hoD.mine
  have HOC := hideM hocD
  have L1 := hideM hb1
  have hmost := hoD.mine.most
  unfold maxLen at hmost
  have ES := hideM (iencS_any aD cD zs per w1 hoD.mine.row hoD.mine.fits (by omega) hoD.mine.nil_len)
  have HLD := hideM hlD
  have hzl : zs.length ≤ 100 := by omega
  clear hoD hocD hb1 DR hmost hlD
  go_wp2_with fail
  refine Calls.mono ES.out ?_
  rintro e w2 ⟨aA, cA, rfl, hoA, hbA⟩
  have D2 := hideM (D1.out.below hbA)
  have L2 := hideM (L1.out.trans (hbA.mono L1.out.size))
  by_cases hp : per < 1 ∨ 65535 < per
  · have hA0 : encR per zs = [] := encR_no (by omega)
    rw [hA0]
    clear hoA hbA D1 D2 L1 ES hA0
    rcases hp with hp1 | hp1
    · have hd1 : decide (per < 1) = true := decide_eq_true hp1
      go_wp2_with fail
      go_ret
      exact ⟨rfl, L2.out⟩
    · have hd1 : decide (per < 1) = false := decide_eq_false (by omega)
      have hd2 : decide (per > 65535) = true := decide_eq_true hp1
      have hnl : ¬ per < 1 := by omega
      go_wp2_with fail
      go_ret
      exact ⟨rfl, L2.out⟩
  · obtain ⟨P, rfl⟩ : ∃ P : Nat, per = (P : Int) := ⟨per.toNat, by omega⟩
    have hP0 : 1 ≤ P := by omega
    have hP1 : P ≤ 65535 := by omega
    have hA := encR_yes (P := P) (zs := zs) (by omega) (by omega) (by omega)
    rw [hA] at hoA ⊢
    have hAl := encS_len P (by omega) zs.length zs (Nat.le_refl _)
    obtain ⟨A, hAe⟩ : ∃ A, encS P zs = A := ⟨_, rfl⟩
    rw [hAe] at hoA hAl ⊢
    have MA : Hid (Mine w1.heap.size w2 aA cA A) := OwnsB.mine (e := 5) hoA
    have HAE := hideM hAe
    have hd1 : decide ((P : Int) < 1) = false := decide_eq_false (by omega)
    have hd2 : decide ((P : Int) > 65535) = false := decide_eq_false (by omega)
    have hA1 : A.length ≤ 1000 := by omega
    have be : Below w2.heap.size w2 (w2.alloc (.cells #[] 5)) := (Below.refl _ _).alloc (Nat.le_refl _) _
    have De := hideM (D2.out.below be)
    have Le := hideM (L2.out.trans (be.mono L2.out.size))
    have INF := hideM (en_inflS zs A P (by omega) (by omega) HOC.out HLD.out hAe aA cA w2.heap.size (w2.alloc (.cells #[] 5)) (MA.out.below be).row (MA.out.nil_len) (by simp) (HG.out.below Le.out hGs))
    clear hp hA hAe hoA hbA D1 D2 L1 L2 ES be MA hAl hper
    go_wp2_with fail
    clear hd1 hd2
    refine Calls.mono INF.out ?_
    rintro e w3 ⟨aX, cX, rfl, hoX, hbX⟩
    have D3 := hideM (De.out.below hbX)
    have L3 := hideM (Le.out.trans (hbX.mono Le.out.size))
    have X3 := hideM hoX.mine
    obtain ⟨N1, hN1⟩ : ∃ N1 : Int, ((8 * A.length : Nat) : Int) = N1 := ⟨_, rfl⟩
    have hN1b : (N1 == 8 * (A.length : Int)) = true := by rw [← hN1]; simp
    rw [hN1]
    clear hoX hbX De Le INF hN1
    have hb4 : Below w3.heap.size w3 (w3.alloc (.cells #[.int .i64 1, .slice aX zs.length cX, .int .i64 N1] 34)) := (Below.refl _ _).alloc (Nat.le_refl _) _
    have G4 := hideM (rs3v_new w3 (.int .i64 1) (.slice aX zs.length cX) (.int .i64 N1) 34)
    have D4 := hideM (D3.out.below hb4)
    have L4 := hideM (L3.out.trans (hb4.mono L3.out.size))
    have X4 := hideM (X3.out.below hb4)
    clear D3 L3 X3 hb4
    go_upto_region 8 with fail
    have z4 : w3.heap.size < (w3.alloc (.cells #[.int .i64 1, .slice aX zs.length cX, .int .i64 N1] 34)).heap.size := World.block_lt_of_cell? _ _ G4.out.c0
    generalize w3.alloc (.cells #[.int .i64 1, .slice aX zs.length cX, .int .i64 N1] 34) = w4 at *
    have EF := hideM (iencF_any aD cD zs w4 D4.out.row HOC.out (by omega))
    go_wp2_with fail
    refine Calls.mono EF.out ?_
    rintro e w5 ⟨aB, cB, rfl, hoB, hbB⟩
    have hB := encF_yes (zs := zs) (by omega)
    rw [hB] at hoB ⊢
    obtain ⟨Bl, hBe⟩ : ∃ B, pk (fixAll zs) = B := ⟨_, rfl⟩
    obtain ⟨F, hF⟩ : ∃ F, (fixAll zs).length = F := ⟨_, rfl⟩
    have hF1 : F ≤ 1000 := by
      rw [← hF]
      unfold fixAll
      have h1 := fixB_len zs zs.length
      have h2 := cbits_len 256
      rw [List.length_append]
      omega
    have hBl : Bl.length = (F + 7) / 8 := by rw [← hBe, pk_len, hF]
    rw [hBe] at hoB ⊢
    have MB : Hid (Mine w4.heap.size w5 aB cB Bl) := OwnsB.mine (e := 5) hoB
    have D5 := hideM (D4.out.below hbB)
    have L5 := hideM (L4.out.trans (hbB.mono L4.out.size))
    have X5 := hideM (X4.out.below hbB)
    have G5 := hideM (G4.out.below hbB z4)
    have be : Below w5.heap.size w5 (w5.alloc (.cells #[] 5)) := (Below.refl _ _).alloc (Nat.le_refl _) _
    have De := hideM (D5.out.below be)
    have Le := hideM (L5.out.trans (be.mono L5.out.size))
    have Xe := hideM (X5.out.below be)
    have z5 : w3.heap.size < w5.heap.size := Nat.lt_of_lt_of_le z4 hbB.size
    have Ge := hideM (G5.out.below be z5)
    have INF := hideM (en_inflF zs Bl F HOC.out HLD.out hBe hF hF1 aB cB w5.heap.size (w5.alloc (.cells #[] 5)) (MB.out.below be).row (MB.out.nil_len) (by simp) (HG.out.below Le.out hGs))
    obtain ⟨LB, hLB⟩ : ∃ LB, Bl.length = LB := ⟨_, rfl⟩
    rw [hLB] at INF hBl ⊢
    have hq : ((F : Int) + 7).tdiv 8 = (LB : Int) := by rw [Int.tdiv_eq_ediv_of_nonneg (by omega), hBl]; omega
    have ze : w3.heap.size < (w5.alloc (.cells #[] 5)).heap.size := by simp; omega
    have hlw : wrap64 (LB : Int) = (LB : Int) := by unfold wrap64; omega
    have HQ := hideM hq
    clear hB hoB hBe hF hBl hbB MB D4 L4 X4 G4 D5 L5 X5 G5 EF be hLB z4 hq
    go_wp2_with fail
    refine Calls.mono INF.out ?_
    rintro e w6 ⟨aY, cY, rfl, hoY, hbY⟩
    have D6 := hideM (De.out.below hbY)
    have L6 := hideM (Le.out.trans (hbY.mono Le.out.size))
    have X6 := hideM (Xe.out.below hbY)
    have G6 := hideM (Ge.out.below hbY ze)
    have Y6 := hideM hoY.mine
    have z6 : w3.heap.size < w6.heap.size := Nat.lt_of_lt_of_le ze hbY.size
    have hb7 : Below w6.heap.size w6 (w6.alloc (.cells #[.int .i64 1, .slice aY zs.length cY, .int .i64 ((F : Nat) : Int)] 34)) := (Below.refl _ _).alloc (Nat.le_refl _) _
    have H7 := hideM (rs3v_new w6 (.int .i64 1) (.slice aY zs.length cY) (.int .i64 ((F : Nat) : Int)) 34)
    have D7 := hideM (D6.out.below hb7)
    have L7 := hideM (L6.out.trans (hb7.mono L6.out.size))
    have X7 := hideM (X6.out.below hb7)
    have Y7 := hideM (Y6.out.below hb7)
    have G7 := hideM (G6.out.below hb7 z6)
    clear hoY hbY De Le Xe Ge INF D6 L6 X6 G6 Y6 hb7 ze z5
    go_upto_region 10 with fail
    have z7 : w6.heap.size < (w6.alloc (.cells #[.int .i64 1, .slice aY zs.length cY, .int .i64 ((F : Nat) : Int)] 34)).heap.size := World.block_lt_of_cell? _ _ H7.out.c0
    generalize w6.alloc (.cells #[.int .i64 1, .slice aY zs.length cY, .int .i64 ((F : Nat) : Int)] 34) = w7 at *
    have LW1 := hideM (lwBytes_same aX aD cX cD zs w7 X7.out.row D7.out.row)
    have LW2 := hideM (lwBytes_same aY aD cY cD zs w7 Y7.out.row D7.out.row)
    obtain ⟨p0, p1, p2, _⟩ := G7.out
    obtain ⟨q0, q1, q2, _⟩ := H7.out
    have hq := HQ.out
    clear D7 X7 Y7 G7 H7 HQ HAE HOC HLD
    have hz37 : w3.heap.size < w7.heap.size := by omega
    go_wp2_with fail
    refine Calls.mono LW1.out ?_
    rintro e w8 ⟨rfl, hw8⟩
    obtain rfl := hw8.symm
    go_wp2_with fail
    refine Calls.mono LW2.out ?_
    rintro e w8 ⟨rfl, hw8⟩
    obtain rfl := hw8.symm
    go_wp2_with fail
    go_ret
    exact ⟨rfl, L7.out⟩
end Go.Proofs.YtboniidgoepdcaaGreatDoor
namespace Go.Proofs.YtboniidgoepdcaaGreatDoor.fnEncode
open Go.ChangeShapes Go.WideShapes Go.ChangeAt Go.RowKit Go.Joins
open Go.ChangeMaps (open_string shut_string)
set_option linter.unusedVariables false

theorem own : ownKnob Tryz.prog.godebug = none := by kernel_rfl
theorem laidOut : laidOutB Tryz.prog = true := by kernel_rfl
/-- What the walk is told of a slice of bytes that came in. -/
def IsRow (w : World) (a : Option Addr) (cap : Nat) (zs : List Int) : Prop :=
  zs.length ≤ cap ∧ cap ≤ maxLen ∧ (a = none → cap = 0) ∧ Row w a zs ∧ Octets zs

theorem open_row {H : Type} {enc : TypeId × Value → H} {W : World} {base : Nat} {sp : Nat → Bool} {held : Bool} {fuel : Nat} {cs : List Value} {x : DataW H × List MemPlace} (hf : DataW.trod enc Tryz.prog W base sp held fuel 22 cs = some x) :
    ∃ a cap zs, cs = [.slice a zs.length cap] ∧ IsRow W a cap zs := by
  rcases open_ints Tryz.underlying22 Tryz.underlying5 (by kernel_rfl) hf with ⟨hcs, _⟩ | ⟨x, l, c, zs, hcs, _, hl, hm, hz, _, hcell, hwz⟩
  · exact ⟨none, 0, [], hcs, Nat.le_refl _, Nat.zero_le _, fun _ => rfl, Row.nil _ _, fun z hz => by cases hz⟩
  · have hlz : l ≤ zs.length := by rw [hz]; split <;> omega
    have e1 : (zs.take l).length = l := by rw [List.length_take]; omega
    refine ⟨some x, c, zs.take l, by rw [e1]; exact hcs, by rw [e1]; exact hl, hm, fun e => (by cases e), ?_, ?_⟩
    · intro i hi
      rw [e1] at hi
      obtain ⟨b, off, spot⟩ := x
      have hc := hcell i (by omega)
      have hspot : spot = none := by
        have h0 := hcell 0 (by omega)
        simpa [Addr.add] using World.cell?_spot h0
      subst hspot
      refine ⟨b, off, rfl, ?_⟩
      rw [Addr.add_lit] at hc
      rw [hc]
      simp [List.getD, hi]
    · intro z hz
      exact bounds_u8 (hwz z (List.mem_of_mem_take hz))

/-! ### THE WALK -/

/-! ### WHAT THE LISTED VARIABLES GIVE -/
theorem oneRow : ((List.range Tryz.prog.types.size).filter fun t => Tryz.prog.rowNamed t [101, 114, 114, 111, 114]) = [84] := by kernel_rfl
theorem c1 : Tryz.prog.cellsOf 2 = 1 := by kernel_rfl
theorem ordAt (k : Nat) (h : k < 19) (l : List (DataW Unit)) (hl : DataW.agg l = Rows.laid_loop_example_s02972_impl_codeOrder) : l[k]? = some (.lit (.int .i64 ((ord19 k : Nat) : Int))) := by
  have hl2 : l = [.lit (.int .i64 16), .lit (.int .i64 17), .lit (.int .i64 18), .lit (.int .i64 0), .lit (.int .i64 8), .lit (.int .i64 7), .lit (.int .i64 9), .lit (.int .i64 6), .lit (.int .i64 10), .lit (.int .i64 5), .lit (.int .i64 11), .lit (.int .i64 4), .lit (.int .i64 12), .lit (.int .i64 3), .lit (.int .i64 13), .lit (.int .i64 2), .lit (.int .i64 14), .lit (.int .i64 1), .lit (.int .i64 15)] := by
    unfold Rows.laid_loop_example_s02972_impl_codeOrder at hl
    injection hl
  subst hl2
  have h3 : k = 0 ∨ k = 1 ∨ k = 2 ∨ k = 3 ∨ k = 4 ∨ k = 5 ∨ k = 6 ∨ k = 7 ∨ k = 8 ∨ k = 9 ∨ k = 10 ∨ k = 11 ∨ k = 12 ∨ k = 13 ∨ k = 14 ∨ k = 15 ∨ k = 16 ∨ k = 17 ∨ k = 18 := by omega
  rcases h3 with rfl | rfl | rfl | rfl | rfl | rfl | rfl | rfl | rfl | rfl | rfl | rfl | rfl | rfl | rfl | rfl | rfl | rfl | rfl <;> rfl
theorem of_laid {W : World} (h : laidMetH Tryz.prog Rows.fnEncodeRow.laid W) : Glob W := by
  have h' : laidMet Tryz.prog (Rows.fnEncodeRow.laid.filter fun x => x.2.handleName?.isNone) W ∧ handlesMet Tryz.prog (Rows.fnEncodeRow.laid.filter fun x => x.2.handleName?.isSome) W := h
  obtain ⟨hd, hh⟩ := h'
  have hg0 : W.cell? ⟨0, 0, none⟩ = some (.iface 160 (.agg #[.pointer (some ⟨2, 84, none⟩)])) := by
    obtain ⟨name, u, ty, e1, e2, e3, e4, e5⟩ := hh _ (List.mem_singleton.2 rfl)
    have en : name = [101, 114, 114, 111, 114] := (Option.some.inj e1).symm
    subst en
    obtain rfl : u = 160 := Option.some.inj (e2.symm.trans (by kernel_rfl))
    have hm : ty ∈ (List.range Tryz.prog.types.size).filter fun t => Tryz.prog.rowNamed t [101, 114, 114, 111, 114] := List.mem_filter.2 ⟨List.mem_range.2 e3, e4⟩
    rw [oneRow] at hm
    obtain rfl := List.mem_singleton.1 hm
    have hh : typeHandle Tryz.prog 84 = .pointer (some ⟨2, 84, none⟩) := by kernel_rfl
    rw [hh] at e5
    simpa using World.var?_cell (g := 0) (by kernel_rfl) e5 0
  obtain ⟨ps, ⟨g, t, cs, fuel, p, q, hg, ht, hv, hdt, _, _⟩, _, _⟩ := hd
  obtain rfl : g = 1 := Option.some.inj (hg.symm.trans (by kernel_rfl))
  obtain rfl : t = 57 := Option.some.inj (ht.symm.trans (by kernel_rfl))
  have hg1 : ∀ k, k < 19 → W.cell? ⟨1, k, none⟩ = some (.int .i64 (ord19 k : Nat)) := by
    intro k hk
    obtain ⟨xs, m, rfl, hx, hlen, hn, hel⟩ := DataW.trod_array Tryz.underlying57 hdt
    simp only [Prod.mk.injEq] at hx
    have ho := ordAt k hk _ hx.1.symm
    rw [List.getElem?_map] at ho
    have h1 := hel k hk
    cases hxk : xs[k]? with
    | none => rw [hxk] at ho; cases ho
    | some y =>
      rw [hxk] at ho h1
      obtain ⟨n, e1, e2, _⟩ := DataW.trod_int Tryz.underlying2 h1
      rw [e2] at ho
      have hnk : n = ((ord19 k : Nat) : Int) := by
        simp only [Option.map_some, Option.some.injEq, DataW.lit.injEq, Lit.int.injEq, true_and] at ho
        exact ho
      rw [c1] at e1
      rw [World.var?_cell hg hv k, ← Array.getElem?_toList]
      have h2 : (cs.toList.drop (k * 1)).take 1 = [.int .i64 n] := e1
      rw [Nat.mul_one] at h2
      have h3 : ((cs.toList.drop k).take 1)[0]? = some (.int .i64 n) := by rw [h2]; rfl
      rw [List.getElem?_take_of_lt (by decide), List.getElem?_drop, Nat.add_zero] at h3
      rw [h3, hnk]
  refine ⟨?_, hg0, hg1⟩
  have b0 := World.block_lt_of_cell? W _ hg0
  have b1 := World.block_lt_of_cell? W _ (hg1 0 (by decide))
  dsimp only at b0 b1
  omega
/-- The door's own heap meets the condition. -/
theorem door_met (os : Os) (args : Array Value) : laidMetH Tryz.prog Rows.fnEncodeRow.laid ((World.doorLaid Tryz.prog 400 os).forCall (fun _ _ => 0) ⟨#[], args, []⟩).memory :=
  laidMetH_of_parts (laidMet_of_run' 8 (by kernel_rfl) (by kernel_rfl)) (by kernel_rfl)

theorem walk (a0 : Option Addr) (cap0 : Nat) (z0 : List Int) (w : World) (w0 : IsRow w a0 cap0 z0) (hG : Glob w) :
    Calls Tryz.prog 4 #[.slice a0 z0.length cap0] w fun e w' => e = .returned (.bool true) ∧ Below w.heap.size w w' := by
  obtain ⟨h1, h2, h3, h4, h5⟩ := w0
  by_cases hn : z0.length ≤ 1048576
  · exact lawEn a0 cap0 z0 w h4 h5 hn hG
  · exact lawEn_big a0 z0.length cap0 w (by unfold maxLen at h2; omega) (by omega)

/-! ### THE ROW's STEP -/
set_option maxRecDepth 100000 in
theorem lifted (os : Os) (started : os.Started) (H : Type) (enc : TypeId × Value → H) :
    ReturnsInHanded {} Tryz.checked os 4 .any (fun w args => (Rows.fnEncodeSpec.pre enc Tryz.prog Tryz.f4 [] false w args ∧ laidMetH Tryz.prog Rows.fnEncodeRow.laid w) ∧ sizedMet enc Tryz.prog Tryz.f4 (OpenSpec.ofChange Rows.fnEncodeSpec) false w args)
      (Rows.fnEncodeSpec.post enc Tryz.prog Tryz.f4 false true false false) := by
  refine returnsInHanded_of_change_and (C := Tryz.checked) (X := fun w _ => laidMetH Tryz.prog Rows.fnEncodeRow.laid w) (fun _ _ _ hh h => h.of_heap hh) own started (by kernel_rfl) Tryz.func4
    (ChangeSpec.witness_shaped (enc := enc) (C := Tryz.checked) (os := os) (X := fun w _ => laidMetH Tryz.prog Rows.fnEncodeRow.laid w) false (World.doorLaid Tryz.prog 400 os) #[.slice none 0 0] 8 rfl (World.shaped_of_RefB (by kernel_rfl) (by kernel_rfl)) (by kernel_rfl) (by kernel_rfl) (by kernel_rfl) (door_met os _)) ?_
  intro W base args ds gs before hval0 hW _ _ hL _
  have hval : ∀ (j : Nat) t v, Tryz.f4.params[j]? = some t → args[j]? = some v → Value.okWide Tryz.prog W .any base t v := hval0
  have hW' := hW
  obtain ⟨p, q, hA0, hV0, rfl, hfz, hnd⟩ := hW
  have hA : DataW.TrodAll enc Tryz.prog W 0 (fun _ => true) true Tryz.f4.params.toList args.toList ds p := hA0
  have hV : DataW.TrodVars enc Tryz.prog W (fun _ => true) Rows.fnEncodeSpec.vars gs q := hV0
  rw [Tryz.params4] at hA hval
  obtain ⟨v0, vs0, d0, ds0, p0, q0, hargs, rfl, rfl, h0, r0⟩ := trodAll_cons hA
  obtain ⟨rfl, rfl, rfl⟩ := trodAll_nil r0
  obtain rfl : args = #[v0] := by cases args; simp_all
  have k0 := h0
  have lt0 : ∀ x ∈ p0, x.block < W.heap.size := by obtain ⟨m, hm⟩ := k0; exact DataW.trod_lt m _ _ _ hm
  obtain ⟨aa0, len0, cc0, rfl⟩ := okWide_slice Tryz.underlying22 (hval 0 22 v0 rfl rfl)
  obtain ⟨a0, cap0, z0, e00, w0⟩ : ∃ a cap zs, [Value.slice aa0 len0 cc0] = [.slice a zs.length cap] ∧ IsRow W a cap zs := by
    obtain ⟨fuel, hf⟩ := h0
    exact open_row (by simpa [Value.cells] using hf)
  simp only [List.cons.injEq, and_true, Value.slice.injEq] at e00
  obtain ⟨rfl, rfl, rfl⟩ := e00
  have hG := of_laid hL
  obtain ⟨gd, rfl⟩ : ∃ gd, gs = [gd] := by
    obtain ⟨_, _, _, _, d, _, e, _⟩ := trodVars_one (n := Rows.fnEncodeSpec.vars.headD Rows.fnEncodeSpec.name) hV
    exact ⟨d, e⟩
  clear hA0 hval0
  refine (walk _ _ z0 W w0 hG).mono fun e W' ⟨he, bel⟩ => ?_
  subst he
  exact ⟨_, rfl, _, _, _, [], _, _, hW', trodAll_mk1 (shut_bool Tryz.underlying4 _), (trodAll_cons_mk (Below.trod laidOut (by kernel_rfl) (of_decide_eq_true (by kernel_rfl)) k0 bel lt0) trodAll_mk0), Below.trodVars laidOut bel (by kernel_rfl) hV, bel.frame _, fun h => by cases h⟩

theorem over : Rows.FnEncodeSaid :=
  OpenClaim.holds_of_wide 4 Tryz.f4 rfl rfl rfl rfl rfl rfl rfl ⟨rfl, rfl, rfl, rfl, rfl⟩ rfl rfl rfl rfl rfl (by kernel_rfl) Tryz.func4 (by kernel_rfl)
    (of_decide_eq_true (by kernel_rfl)) (by unfold Func.isWrapper; first | (rw [if_pos (by decide +kernel)]; kernel_rfl) | (rw [if_neg (by decide +kernel)]; exact ⟨rfl, rfl⟩))
    (fun os started H enc _ => lifted os started H enc)

theorem looks (f : FuncId) (fn : Func) (hf : Tryz.prog.funcNamed Rows.fnEncodeRow.func = some f) (hfn : Tryz.prog.funcs[f]? = some fn) : true = Tryz.prog.looks [] ∧ ∀ (j : Nat) t, fn.params[j]? = some t → Tryz.prog.wantsStandIn t = false := by
  obtain rfl : f = 4 := Option.some.inj ((show Tryz.prog.funcNamed Rows.fnEncodeRow.func = some 4 by kernel_rfl).symm.trans hf) |>.symm
  obtain rfl : fn = Tryz.f4 := (Option.some.inj (Tryz.func4.symm.trans hfn)).symm
  refine ⟨by kernel_rfl, fun j t ht => ?_⟩
  rw [Tryz.params4] at ht
  have hm : t ∈ [22] := by simpa using Array.mem_of_getElem? ht
  have hall : ([22].all fun u => !Tryz.prog.wantsStandIn u) = true := by kernel_rfl
  exact (show Tryz.prog.wantsStandIn t = false by simpa using List.all_eq_true.1 hall t hm)
/-- THE CARD -/
theorem proved : Rows.FnEncodeCardSaid :=
  ⟨Claim7.tied_new_at .later [.handle, .data] true (Claim7.new_of_sixth over Rows.fnEncodeCard.stood.harness true rfl ⟨rfl, rfl⟩ (by kernel_rfl) (by kernel_rfl) looks) (by kernel_rfl), (fun D hD => by cases hD), fnEncode_row_tie, (fun h => by cases h), by kernel_rfl⟩
#print axioms proved
end Go.Proofs.YtboniidgoepdcaaGreatDoor.fnEncode
