import Derived.Test.YtbddkkfakkedaaaGreatDoorRows
import Derived.Test.YtbddkkfakkedaaaGreatDoorCards
import Derived.Test.YtbddkkfakkedaaaGreatDoorTie
import Derived.WalkKit
import Derived.ProofKit
import Derived.OpenShut
import Derived.OpenVars
import Derived.ShutString
import Derived.ChangeOld
import Derived.ChangeVars
import Derived.Below
import Derived.LaidLaws
import Derived.LaidHandle
import Derived.LaidMore
import Derived.SevenTiedAt
import Derived.Stop.Joined
import Derived.Lib.SmallJoins
import Derived.Test.YtbddkkfakkedaaaGreatDoorMAD
import Derived.Test.YtbddkkfakkedaaaGreatDoorMAG
import Derived.Test.YtbddkkfakkedaaaGreatDoorMBZ
namespace Go.Proofs.YtbddkkfakkedaaaGreatDoor
open Go.RowKit
attribute [local go_sem ↓] Go.wp_at_zero Go.wp_at_succ
set_option linter.unusedVariables false

def zK (d : List Int) : Int := if d = [] then 1 else 5
def zO (d zs : List Int) : List Int := if d = [] then zs else []
def zN (d A : List Int) : Int := if d = [] then (A.length : Int) else 0
/-- The code read with its own dictionary. -/
theorem zl_call1 (I : Nat) (hI : I < 8) (d zs : List Int) (hz : Octets zs) (hzl : zs.length ≤ 1000) (hd : Octets d) (hdl : d.length ≤ 1000) (aA be : Option Addr) (cA cbe BA BE : Nat) (W : World) (hA : Mine BA W aA cA (zcode I d zs)) (hE : Mine BE W be cbe d) (hG : Glob W) :
    Calls Tryz.prog 7 #[.slice aA (zcode I d zs).length cA, .slice be d.length cbe] W fun x w' => InfIs 1 zs ((zcode I d zs).length : Int) x W w' := by
  have hlen := zcode_len I d zs hzl
  refine Calls.mono (izlib_any aA be cA cbe (zcode I d zs) d W hA.row hA.nil_len (zcode_oct I d zs hI) (by omega) hd (by omega) hE.row hE.fits hE.most (fun ad e => (hE.lies ad e).2.1) hG (zl_end I hI d d zs hz hzl)) ?_
  rintro x w' ⟨z, q, k, cf, hEn, h⟩
  have hX : ∃ cf, Ends (znow z q) (zstep (zcode I d zs) d) zc0 1 cf ∧ cf.ic.out = zs ∧ zRes 1 cf = ((zcode I d zs).length : Int) := by
    by_cases h0 : d = []
    · subst h0
      exact zl_plain z q I hI [] zs hz hzl
    · exact zl_same z q I hI d zs h0 hz hzl
  obtain ⟨cf2, e1, e2, e3⟩ := hX
  obtain ⟨rfl, rfl⟩ := e1.det hEn
  rw [e2, e3] at h
  exact h
/-- The code read with another dictionary. -/
theorem zl_call2 (I : Nat) (hI : I < 8) (d e zs : List Int) (hz : Octets zs) (hzl : zs.length ≤ 1000) (he0 : Octets e) (hel : e.length ≤ 1000) (he : d = [] ∨ e = [] ∨ Adl.adl e ≠ Adl.adl d) (aA be : Option Addr) (cA cbe BA BE : Nat) (W : World) (hA : Mine BA W aA cA (zcode I d zs)) (hE : Mine BE W be cbe e) (hG : Glob W) :
    Calls Tryz.prog 7 #[.slice aA (zcode I d zs).length cA, .slice be e.length cbe] W fun x w' => InfIs (zK d) (zO d zs) (zN d (zcode I d zs)) x W w' := by
  have hlen := zcode_len I d zs hzl
  refine Calls.mono (izlib_any aA be cA cbe (zcode I d zs) e W hA.row hA.nil_len (zcode_oct I d zs hI) (by omega) he0 (by omega) hE.row hE.fits hE.most (fun ad e => (hE.lies ad e).2.1) hG (zl_end I hI d e zs hz hzl)) ?_
  rintro x w' ⟨z, q, k, cf, hEn, h⟩
  by_cases h0 : d = []
  · subst h0
    obtain ⟨cf2, e1, e2, e3⟩ := zl_plain z q I hI e zs hz hzl
    obtain ⟨rfl, rfl⟩ := e1.det hEn
    rw [e2, e3] at h
    exact h
  · obtain ⟨cf2, e1, e2⟩ := zl_other z q I hI d e zs h0 hzl (he.resolve_left h0)
    obtain ⟨rfl, rfl⟩ := e1.det hEn
    unfold zK zO zN
    rw [if_neg h0, if_neg h0, if_neg h0]
    rw [e2] at h
    unfold zRes at h
    rw [if_neg (by decide)] at h
    exact h
theorem lawZl_big (co : Option Addr) (n cc : Nat) (w : World) (hn : n ≤ 9223372036854775807) (hbig : 1048576 < n) :
    Calls Tryz.prog 3 #[.slice co n cc] w fun e w' => e = .returned (.bool true) ∧ Below w.heap.size w w' := by
  go_enter Tryz.func3, Tryz.ntmps3
  go_wp2_with fail
  go_ret
  exact ⟨rfl, Below.refl _ _⟩
set_option maxRecDepth 100000 in
set_option maxHeartbeats 25600000 in
theorem lawZl (co : Option Addr) (cc : Nat) (cs : List Int) (w : World) (hr : Row w co cs) (hoct : Octets cs) (hn : cs.length ≤ 1048576) (hG : Glob w) :
    Calls Tryz.prog 3 #[.slice co cs.length cc] w fun e w' => e = .returned (.bool true) ∧ Below w.heap.size w w' := by
  obtain ⟨i0, hi, hz0, hz1, hz2⟩ := info_parts Tryz.info_u8s
  have HG := hideM hG
  have hGs := hG.sz
  have DR := hideM (drawEZ_any co cc cs w hr hoct hn)
  clear hr hoct hG
  go_enter Tryz.func3, Tryz.ntmps3
  go_wp2_with fail
  refine Calls.mono DR.out ?_
  rintro e w1 ⟨aD, cD, zs, info, bo, cb, d, rfl, hoD, hocD, hlD, hoE, hocE, hlE, hinf, hb1⟩
  have D1 := hideM hoD.mine
  have E1 := hideM hoE.mine
  have HOC := hideM hocD
  have HOE := hideM hocE
  have L1 := hideM hb1
  clear hoD hoE hocD hocE hb1 DR
  by_cases hI : ¬ (0 ≤ info ∧ info ≤ 7)
  · have EZ := hideM (iencZ_no info aD bo zs.length cD d.length cb w1 hI)
    go_wp2_with fail
    refine Calls.mono EZ.out ?_
    rintro e w2 ⟨rfl, hw2⟩
    obtain rfl := hw2.symm
    by_cases h0 : info < 0
    · have hd1 : decide (info < 0) = true := decide_eq_true h0
      go_wp2_with fail
      go_ret
      exact ⟨rfl, L1.out⟩
    · have hd1 : decide (info < 0) = false := decide_eq_false h0
      have hd2 : decide (info > 7) = true := decide_eq_true (by omega)
      go_wp2_with fail
      go_ret
      exact ⟨rfl, L1.out⟩
  · have hI' : 0 ≤ info ∧ info ≤ 7 := by omega
    obtain ⟨I, rfl⟩ : ∃ I : Nat, info = (I : Int) := ⟨info.toNat, by omega⟩
    have hI8 : I < 8 := by omega
    have hd1 : decide ((I : Int) < 0) = false := decide_eq_false (by omega)
    have hd2 : decide ((I : Int) > 7) = false := decide_eq_false (by omega)
    have EZ := hideM (iencZ_yes I aD bo cD cb zs d w1 (by omega) D1.out.row HOC.out D1.out.fits (by omega) (fun ad e _ => (D1.out.lies ad e).2.1) E1.out.row HOE.out E1.out.fits (by omega) (fun ad e _ => (E1.out.lies ad e).2.1))
    have C1 := hideM (fun aA be cA cbe BA BE W => zl_call1 I hI8 d zs HOC.out (by omega) HOE.out (by omega) aA be cA cbe BA BE W)
    have C2 := hideM (fun aA be cA cbe BA BE W => zl_call2 I hI8 d (d ++ [1]) zs HOC.out (by omega) (fun v hv => by
      rcases List.mem_append.1 hv with h | h
      · exact HOE.out v h
      · simp at h; subst h; omega) (by rw [List.length_append]; show _ + 1 ≤ _; omega) (.inr (.inr (adl_one d))) aA be cA cbe BA BE W)
    have C3 := hideM (fun aA be cA cbe BA BE W => zl_call2 I hI8 d [] zs HOC.out (by omega) (fun v hv => by cases hv) (by simp) (.inr (.inl rfl)) aA be cA cbe BA BE W)
    have hAl := zcode_len I d zs (by omega)
    obtain ⟨A, hAe⟩ : ∃ A, zcode I d zs = A := ⟨_, rfl⟩
    rw [hAe] at EZ C1 C2 C3 hAl
    clear hI hI' hinf hAe
    go_wp2_with fail
    refine Calls.mono EZ.out ?_
    rintro e w2 ⟨aA, cA, rfl, hoA, hbA⟩
    have MA : Hid (Mine w1.heap.size w2 aA cA A) := OwnsB.mine (e := 5) hoA
    have D2 := hideM (D1.out.below hbA)
    have E2 := hideM (E1.out.below hbA)
    have L2 := hideM (L1.out.trans (hbA.mono L1.out.size))
    have Z1 := hideM (C1.out aA bo cA cb _ _ w2 MA.out E2.out (HG.out.below L2.out hGs))
    clear hoA hbA D1 E1 L1 EZ C1
    go_wp2_with fail
    refine Calls.mono Z1.out ?_
    rintro e w3 ⟨aX, cX, rfl, hoX, hbX⟩
    have hb4 : Below w3.heap.size w3 (w3.alloc (.cells #[.int .i64 1, .slice aX zs.length cX, .int .i64 (A.length : Int)] 27)) := (Below.refl _ _).alloc (Nat.le_refl _) _
    have G4 := hideM (rs3v_new w3 (.int .i64 1) (.slice aX zs.length cX) (.int .i64 (A.length : Int)) 27)
    have A4 := hideM ((MA.out.below hbX).below hb4)
    have D4 := hideM ((D2.out.below hbX).below hb4)
    have E4 := hideM ((E2.out.below hbX).below hb4)
    have X4 := hideM (hoX.mine.below hb4)
    have L3 := L2.out.trans (hbX.mono L2.out.size)
    have L4 := hideM (L3.trans (hb4.mono L3.size))
    have z4 : w3.heap.size < (w3.alloc (.cells #[.int .i64 1, .slice aX zs.length cX, .int .i64 (A.length : Int)] 27)).heap.size := World.block_lt_of_cell? _ _ G4.out.c0
    clear hoX hbX hb4 L3 MA D2 E2 L2 Z1
    go_upto_region 8 with fail
    generalize w3.alloc (.cells #[.int .i64 1, .slice aX zs.length cX, .int .i64 (A.length : Int)] 27) = w4 at *
    have LW1 := hideM (lwBytes_same aX aD cX cD zs w4 X4.out.row D4.out.row)
    obtain ⟨p0, p1, p2, _⟩ := G4.out
    clear X4
    go_wp2_with fail
    refine Calls.mono LW1.out ?_
    rintro e w8 ⟨rfl, hw8⟩
    obtain rfl := hw8.symm
    clear LW1
    go_upto_region 10 with fail
    clear hd1 hd2
    obtain ⟨K, hK⟩ : ∃ K, zK d = K := ⟨_, rfl⟩
    obtain ⟨O, hO⟩ : ∃ O, zO d zs = O := ⟨_, rfl⟩
    obtain ⟨N, hN⟩ : ∃ N, zN d A = N := ⟨_, rfl⟩
    rw [hK, hO, hN] at C2 C3
    have HK : Hid ((d = [] → K = 1 ∧ O = zs) ∧ (d ≠ [] → K = 5 ∧ O = [])) := ⟨fun e => ⟨by rw [← hK]; unfold zK; rw [if_pos e], by rw [← hO]; unfold zO; rw [if_pos e]⟩, fun e => ⟨by rw [← hK]; unfold zK; rw [if_neg e], by rw [← hO]; unfold zO; rw [if_neg e]⟩⟩
    clear hK hO hN
    have OW0 : Hid (OwnsB 5 w4.heap.size (w4.alloc (.cells #[] 5)) (some ⟨w4.heap.size, 0, none⟩) 0 []) := own1 w4 _ _ _ (Nat.le_refl _) rfl
    have B0 : Hid (Below w4.heap.size w4 (w4.alloc (.cells #[] 5))) := (Below.refl _ _).alloc (Nat.le_refl _) _
    have E0 := hideM (E4.out.below B0.out)
    have HS0 : Hid (w4.heap.size ≤ (w4.alloc (.cells #[] 5)).heap.size) := B0.out.size
    go_wp2_with (at_builtin; refine wpList_append_row _ rfl _ _ 22 rfl w4.heap.size 5 i0 (.int .u8 0) 1 Tryz.underlying22 hi hz0 hz1 hz2 rfl (.slice (some ⟨w4.heap.size, 0, none⟩) 0 0) 0 [] rfl OW0.out bo cb d rfl E0.out.row E0.out.nil_len (by unfold maxLen; omega) (by omega) HS0.out ?_)
    intro v' w5 hown hgrow hat
    have hown2 : w5.ownsRow w4.heap.size 5 1 v' d.length (d.map (Value.int .u8)) := hown
    obtain ⟨a1, c1, e', ho5⟩ := OwnsB.of hown2
    subst e'
    have B5 := hideM (B0.out.grown hgrow HS0.out (fun k e => by simp [Value.ownBlock] at e; omega))
    have B5' : Hid (Below w4.heap.size w4 (w5.alloc (.cells #[.int .u8 1] 5))) := B5.out.alloc B5.out.size _
    have O5 := hideM (ho5.grown (World.grownBy_alloc w5 (.cells #[.int .u8 1] 5) none) (by simp))
    have HBA := hideM (OwnsB.based ho5)
    have HROW := hideM (row_one w5 1 5)
    have HS5 : Hid (w4.heap.size ≤ (w5.alloc (.cells #[.int .u8 1] 5)).heap.size) := B5'.out.size
    clear hown hown2 hgrow hat ho5 OW0 B0 E0 HS0
    go_wp2_with (at_builtin; refine wpList_append_row _ rfl _ _ 22 rfl w4.heap.size 5 i0 (.int .u8 0) 1 Tryz.underlying22 hi hz0 hz1 hz2 rfl (.slice a1 d.length c1) d.length (d.map (Value.int .u8)) rfl O5.out (some ⟨w5.heap.size, 0, none⟩) 1 [1] rfl HROW.out (fun e => by cases e) (by unfold maxLen; simp; omega) (by simp; omega) HS5.out ?_)
    intro v' w6 hown hgrow hat
    have hle : d.length + 1 = (d ++ [1] : List Int).length := by simp
    have hmap : d.map (Value.int .u8) ++ [Value.int .u8 1] = (d ++ [1] : List Int).map (Value.int .u8) := by simp
    have hown2 : w6.ownsRow w4.heap.size 5 1 v' (d ++ [1] : List Int).length ((d ++ [1] : List Int).map (Value.int .u8)) := by rw [← hle, ← hmap]; exact hown
    obtain ⟨a2, c2, e', ho6⟩ := OwnsB.of hown2
    subst e'
    have hob : (Value.slice a1 d.length c1).ownBlock = blk a1 := by cases a1 <;> rfl
    rw [hob] at hgrow
    have hb6 := B5'.out.grown hgrow HS5.out (fun k e => HBA.out k e)
    have L6 := hideM (L4.out.trans (hb6.mono L4.out.size))
    have A6 := hideM (A4.out.below hb6)
    have D6 := hideM (D4.out.below hb6)
    have Z2 := hideM (C2.out aA a2 cA c2 _ _ w6 A6.out ho6.mine (HG.out.below L6.out hGs))
    clear hown hown2 hgrow hat hob B5 B5' O5 HBA HROW HS5 hb6 ho6 hle hmap A4 D4 E4 L4 G4 C2 p0 p1 p2
    generalize (d ++ [1] : List Int).length = n2 at *
    go_wp2_with fail
    refine Calls.mono Z2.out ?_
    rintro e w7 ⟨aY, cY, rfl, hoY, hbY⟩
    have hb8 : Below w7.heap.size w7 (w7.alloc (.cells #[.int .i64 K, .slice aY O.length cY, .int .i64 N] 27)) := (Below.refl _ _).alloc (Nat.le_refl _) _
    have G8 := hideM (rs3v_new w7 (.int .i64 K) (.slice aY O.length cY) (.int .i64 N) 27)
    have A8 := hideM ((A6.out.below hbY).below hb8)
    have D8 := hideM ((D6.out.below hbY).below hb8)
    have Y8 := hideM (hoY.mine.below hb8)
    have L7 := L6.out.trans (hbY.mono L6.out.size)
    have L8 := hideM (L7.trans (hb8.mono L7.size))
    have z8 : w7.heap.size < (w7.alloc (.cells #[.int .i64 K, .slice aY O.length cY, .int .i64 N] 27)).heap.size := World.block_lt_of_cell? _ _ G8.out.c0
    clear hoY hbY hb8 L7 A6 D6 L6 Z2
    go_upto_region 11 with fail
    generalize w7.alloc (.cells #[.int .i64 K, .slice aY O.length cY, .int .i64 N] 27) = w8 at *
    have be : Below w8.heap.size w8 (w8.alloc (.cells #[] 5)) := (Below.refl _ _).alloc (Nat.le_refl _) _
    have OE : OwnsB 5 w8.heap.size (w8.alloc (.cells #[] 5)) (some ⟨w8.heap.size, 0, none⟩) 0 [] := own1 w8 _ _ _ (Nat.le_refl _) rfl
    have A9 := hideM (A8.out.below be)
    have D9 := hideM (D8.out.below be)
    have Y9 := hideM (Y8.out.below be)
    have G9 := hideM (G8.out.below be z8)
    have L9 := hideM (L8.out.trans (be.mono L8.out.size))
    have z9 : w7.heap.size < (w8.alloc (.cells #[] 5)).heap.size := Nat.lt_of_lt_of_le z8 be.size
    have Z3 := hideM (C3.out aA (some ⟨w8.heap.size, 0, none⟩) cA 0 _ _ (w8.alloc (.cells #[] 5)) A9.out OE.mine (HG.out.below L9.out hGs))
    clear be OE A8 D8 Y8 G8 L8 C3
    go_wp2_with fail
    refine Calls.mono Z3.out ?_
    rintro e w10 ⟨aZ, cZ, rfl, hoZ, hbZ⟩
    have hb11 : Below w10.heap.size w10 (w10.alloc (.cells #[.int .i64 K, .slice aZ O.length cZ, .int .i64 N] 27)) := (Below.refl _ _).alloc (Nat.le_refl _) _
    have H11 := hideM (rs3v_new w10 (.int .i64 K) (.slice aZ O.length cZ) (.int .i64 N) 27)
    have D11 := hideM ((D9.out.below hbZ).below hb11)
    have Y11 := hideM ((Y9.out.below hbZ).below hb11)
    have z10 : w7.heap.size < w10.heap.size := Nat.lt_of_lt_of_le z9 hbZ.size
    have G11 := hideM ((G9.out.below hbZ z9).below hb11 z10)
    have L10 := L9.out.trans (hbZ.mono L9.out.size)
    have L11 := hideM (L10.trans (hb11.mono L10.size))
    have z11 : w10.heap.size < (w10.alloc (.cells #[.int .i64 K, .slice aZ O.length cZ, .int .i64 N] 27)).heap.size := World.block_lt_of_cell? _ _ H11.out.c0
    clear hoZ hbZ hb11 L10 A9 D9 Y9 G9 L9 Z3 z9
    go_upto_region 12 with fail
    generalize w10.alloc (.cells #[.int .i64 K, .slice aZ O.length cZ, .int .i64 N] 27) = w11 at *
    have z7 : w7.heap.size < w11.heap.size := by omega
    obtain ⟨p0, p1, p2, _⟩ := G11.out
    obtain ⟨q0, q1, q2, _⟩ := H11.out
    clear G11 H11
    by_cases hd0 : d = []
    · obtain ⟨hK, hO⟩ := HK.out.1 hd0
      subst hK
      subst hO
      have hdl : ((d.length : Int) == 0) = true := by rw [hd0]; rfl
      have LW2 := hideM (lwBytes_same aY aD cY cD O w11 Y11.out.row D11.out.row)
      clear hd0 HK
      go_wp2_with fail
      refine Calls.mono LW2.out ?_
      rintro e w12 ⟨rfl, hw12⟩
      obtain rfl := hw12.symm
      go_wp2_with fail
      go_ret
      exact ⟨rfl, L11.out⟩
    · obtain ⟨hK, hO⟩ := HK.out.2 hd0
      subst hK
      subst hO
      have hdl : ((d.length : Int) == 0) = false := by
        have : d.length ≠ 0 := fun h => hd0 (List.eq_nil_of_length_eq_zero h)
        simp
        omega
      clear hd0 HK
      go_wp2_with fail
      go_ret
      exact ⟨rfl, L11.out⟩
end Go.Proofs.YtbddkkfakkedaaaGreatDoor
namespace Go.Proofs.YtbddkkfakkedaaaGreatDoor.fnZlib
open Go.ChangeShapes Go.WideShapes Go.ChangeAt Go.RowKit Go.Joins
open Go.ChangeMaps (open_string shut_string)
set_option linter.unusedVariables false

theorem own : ownKnob Tryz.prog.godebug = none := by kernel_rfl
theorem laidOut : laidOutB Tryz.prog = true := by kernel_rfl
/-- What the walk is told of a slice of bytes that came in. -/
def IsRow (w : World) (a : Option Addr) (cap : Nat) (zs : List Int) : Prop :=
  zs.length ≤ cap ∧ cap ≤ maxLen ∧ (a = none → cap = 0) ∧ Row w a zs ∧ Octets zs

theorem open_row {H : Type} {enc : TypeId × Value → H} {W : World} {base : Nat} {sp : Nat → Bool} {held : Bool} {fuel : Nat} {cs : List Value} {x : DataW H × List MemPlace} (hf : DataW.trod enc Tryz.prog W base sp held fuel 22 cs = some x) :
    ∃ a cap zs, cs = [.slice a zs.length cap] ∧ IsRow W a cap zs := by
  rcases open_ints Tryz.underlying22 Tryz.underlying5 (by kernel_rfl) hf with ⟨hcs, _⟩ | ⟨x, l, c, zs, hcs, _, hl, hm, hz, _, hcell, hwz⟩
  · exact ⟨none, 0, [], hcs, Nat.le_refl _, Nat.zero_le _, fun _ => rfl, Row.nil _ _, fun z hz => by cases hz⟩
  · have hlz : l ≤ zs.length := by rw [hz]; split <;> omega
    have e1 : (zs.take l).length = l := by rw [List.length_take]; omega
    refine ⟨some x, c, zs.take l, by rw [e1]; exact hcs, by rw [e1]; exact hl, hm, fun e => (by cases e), ?_, ?_⟩
    · intro i hi
      rw [e1] at hi
      obtain ⟨b, off, spot⟩ := x
      have hc := hcell i (by omega)
      have hspot : spot = none := by
        have h0 := hcell 0 (by omega)
        simpa [Addr.add] using World.cell?_spot h0
      subst hspot
      refine ⟨b, off, rfl, ?_⟩
      rw [Addr.add_lit] at hc
      rw [hc]
      simp [List.getD, hi]
    · intro z hz
      exact bounds_u8 (hwz z (List.mem_of_mem_take hz))

/-! ### THE WALK -/

/-! ### WHAT THE LISTED VARIABLES GIVE -/
theorem oneRow : ((List.range Tryz.prog.types.size).filter fun t => Tryz.prog.rowNamed t [101, 114, 114, 111, 114]) = [111] := by kernel_rfl
theorem c1 : Tryz.prog.cellsOf 2 = 1 := by kernel_rfl
theorem ordAt (k : Nat) (h : k < 19) (l : List (DataW Unit)) (hl : DataW.agg l = Rows.laid_loop_example_s02972_impl_codeOrder) : l[k]? = some (.lit (.int .i64 ((ord19 k : Nat) : Int))) := by
  have hl2 : l = [.lit (.int .i64 16), .lit (.int .i64 17), .lit (.int .i64 18), .lit (.int .i64 0), .lit (.int .i64 8), .lit (.int .i64 7), .lit (.int .i64 9), .lit (.int .i64 6), .lit (.int .i64 10), .lit (.int .i64 5), .lit (.int .i64 11), .lit (.int .i64 4), .lit (.int .i64 12), .lit (.int .i64 3), .lit (.int .i64 13), .lit (.int .i64 2), .lit (.int .i64 14), .lit (.int .i64 1), .lit (.int .i64 15)] := by
    unfold Rows.laid_loop_example_s02972_impl_codeOrder at hl
    injection hl
  subst hl2
  have h3 : k = 0 ∨ k = 1 ∨ k = 2 ∨ k = 3 ∨ k = 4 ∨ k = 5 ∨ k = 6 ∨ k = 7 ∨ k = 8 ∨ k = 9 ∨ k = 10 ∨ k = 11 ∨ k = 12 ∨ k = 13 ∨ k = 14 ∨ k = 15 ∨ k = 16 ∨ k = 17 ∨ k = 18 := by omega
  rcases h3 with rfl | rfl | rfl | rfl | rfl | rfl | rfl | rfl | rfl | rfl | rfl | rfl | rfl | rfl | rfl | rfl | rfl | rfl | rfl <;> rfl
theorem of_laid {W : World} (h : laidMetH Tryz.prog Rows.fnZlibRow.laid W) : Glob W := by
  have h' : laidMet Tryz.prog (Rows.fnZlibRow.laid.filter fun x => x.2.handleName?.isNone) W ∧ handlesMet Tryz.prog (Rows.fnZlibRow.laid.filter fun x => x.2.handleName?.isSome) W := h
  obtain ⟨hd, hh⟩ := h'
  have hg0 : W.cell? ⟨1, 0, none⟩ = some (.iface 227 (.agg #[.pointer (some ⟨3, 111, none⟩)])) := by
    obtain ⟨name, u, ty, e1, e2, e3, e4, e5⟩ := hh _ (List.mem_singleton.2 rfl)
    have en : name = [101, 114, 114, 111, 114] := (Option.some.inj e1).symm
    subst en
    obtain rfl : u = 227 := Option.some.inj (e2.symm.trans (by kernel_rfl))
    have hm : ty ∈ (List.range Tryz.prog.types.size).filter fun t => Tryz.prog.rowNamed t [101, 114, 114, 111, 114] := List.mem_filter.2 ⟨List.mem_range.2 e3, e4⟩
    rw [oneRow] at hm
    obtain rfl := List.mem_singleton.1 hm
    have hh : typeHandle Tryz.prog 111 = .pointer (some ⟨3, 111, none⟩) := by kernel_rfl
    rw [hh] at e5
    simpa using World.var?_cell (g := 1) (by kernel_rfl) e5 0
  obtain ⟨ps, ⟨g, t, cs, fuel, p, q, hg, ht, hv, hdt, _, _⟩, _, _⟩ := hd
  obtain rfl : g = 2 := Option.some.inj (hg.symm.trans (by kernel_rfl))
  obtain rfl : t = 65 := Option.some.inj (ht.symm.trans (by kernel_rfl))
  have hg1 : ∀ k, k < 19 → W.cell? ⟨2, k, none⟩ = some (.int .i64 (ord19 k : Nat)) := by
    intro k hk
    obtain ⟨xs, m, rfl, hx, hlen, hn, hel⟩ := DataW.trod_array Tryz.underlying65 hdt
    simp only [Prod.mk.injEq] at hx
    have ho := ordAt k hk _ hx.1.symm
    rw [List.getElem?_map] at ho
    have h1 := hel k hk
    cases hxk : xs[k]? with
    | none => rw [hxk] at ho; cases ho
    | some y =>
      rw [hxk] at ho h1
      obtain ⟨n, e1, e2, _⟩ := DataW.trod_int Tryz.underlying2 h1
      rw [e2] at ho
      have hnk : n = ((ord19 k : Nat) : Int) := by
        simp only [Option.map_some, Option.some.injEq, DataW.lit.injEq, Lit.int.injEq, true_and] at ho
        exact ho
      rw [c1] at e1
      rw [World.var?_cell hg hv k, ← Array.getElem?_toList]
      have h2 : (cs.toList.drop (k * 1)).take 1 = [.int .i64 n] := e1
      rw [Nat.mul_one] at h2
      have h3 : ((cs.toList.drop k).take 1)[0]? = some (.int .i64 n) := by rw [h2]; rfl
      rw [List.getElem?_take_of_lt (by decide), List.getElem?_drop, Nat.add_zero] at h3
      rw [h3, hnk]
  refine ⟨?_, hg0, hg1⟩
  have b0 := World.block_lt_of_cell? W _ hg0
  have b1 := World.block_lt_of_cell? W _ (hg1 0 (by decide))
  dsimp only at b0 b1
  omega
/-- The door's own heap meets the condition. -/
theorem door_met (os : Os) (args : Array Value) : laidMetH Tryz.prog Rows.fnZlibRow.laid ((World.doorLaid Tryz.prog 400 os).forCall (fun _ _ => 0) ⟨#[], args, []⟩).memory :=
  laidMetH_of_parts (laidMet_of_run' 8 (by kernel_rfl) (by kernel_rfl)) (by kernel_rfl)

theorem walk (a0 : Option Addr) (cap0 : Nat) (z0 : List Int) (w : World) (w0 : IsRow w a0 cap0 z0) (hG : Glob w) :
    Calls Tryz.prog 3 #[.slice a0 z0.length cap0] w fun e w' => e = .returned (.bool true) ∧ Below w.heap.size w w' := by
  obtain ⟨h1, h2, h3, h4, h5⟩ := w0
  by_cases hn : z0.length ≤ 1048576
  · exact lawZl a0 cap0 z0 w h4 h5 hn hG
  · exact lawZl_big a0 z0.length cap0 w (by unfold maxLen at h2; omega) (by omega)

/-! ### THE ROW's STEP -/
set_option maxRecDepth 100000 in
theorem lifted (os : Os) (started : os.Started) (H : Type) (enc : TypeId × Value → H) :
    ReturnsInHanded {} Tryz.checked os 3 .any (fun w args => (Rows.fnZlibSpec.pre enc Tryz.prog Tryz.f3 [] false w args ∧ laidMetH Tryz.prog Rows.fnZlibRow.laid w) ∧ sizedMet enc Tryz.prog Tryz.f3 (OpenSpec.ofChange Rows.fnZlibSpec) false w args)
      (Rows.fnZlibSpec.post enc Tryz.prog Tryz.f3 false true false false) := by
  refine returnsInHanded_of_change_and (C := Tryz.checked) (X := fun w _ => laidMetH Tryz.prog Rows.fnZlibRow.laid w) (fun _ _ _ hh h => h.of_heap hh) own started (by kernel_rfl) Tryz.func3
    (ChangeSpec.witness_shaped (enc := enc) (C := Tryz.checked) (os := os) (X := fun w _ => laidMetH Tryz.prog Rows.fnZlibRow.laid w) false (World.doorLaid Tryz.prog 400 os) #[.slice none 0 0] 8 rfl (World.shaped_of_RefB (by kernel_rfl) (by kernel_rfl)) (by kernel_rfl) (by kernel_rfl) (by kernel_rfl) (door_met os _)) ?_
  intro W base args ds gs before hval0 hW _ _ hL _
  have hval : ∀ (j : Nat) t v, Tryz.f3.params[j]? = some t → args[j]? = some v → Value.okWide Tryz.prog W .any base t v := hval0
  have hW' := hW
  obtain ⟨p, q, hA0, hV0, rfl, hfz, hnd⟩ := hW
  have hA : DataW.TrodAll enc Tryz.prog W 0 (fun _ => true) true Tryz.f3.params.toList args.toList ds p := hA0
  have hV : DataW.TrodVars enc Tryz.prog W (fun _ => true) Rows.fnZlibSpec.vars gs q := hV0
  rw [Tryz.params3] at hA hval
  obtain ⟨v0, vs0, d0, ds0, p0, q0, hargs, rfl, rfl, h0, r0⟩ := trodAll_cons hA
  obtain ⟨rfl, rfl, rfl⟩ := trodAll_nil r0
  obtain rfl : args = #[v0] := by cases args; simp_all
  have k0 := h0
  have lt0 : ∀ x ∈ p0, x.block < W.heap.size := by obtain ⟨m, hm⟩ := k0; exact DataW.trod_lt m _ _ _ hm
  obtain ⟨aa0, len0, cc0, rfl⟩ := okWide_slice Tryz.underlying22 (hval 0 22 v0 rfl rfl)
  obtain ⟨a0, cap0, z0, e00, w0⟩ : ∃ a cap zs, [Value.slice aa0 len0 cc0] = [.slice a zs.length cap] ∧ IsRow W a cap zs := by
    obtain ⟨fuel, hf⟩ := h0
    exact open_row (by simpa [Value.cells] using hf)
  simp only [List.cons.injEq, and_true, Value.slice.injEq] at e00
  obtain ⟨rfl, rfl, rfl⟩ := e00
  have hG := of_laid hL
  obtain ⟨gd, rfl⟩ : ∃ gd, gs = [gd] := by
    obtain ⟨_, _, _, _, d, _, e, _⟩ := trodVars_one (n := Rows.fnZlibSpec.vars.headD Rows.fnZlibSpec.name) hV
    exact ⟨d, e⟩
  clear hA0 hval0
  refine (walk _ _ z0 W w0 hG).mono fun e W' ⟨he, bel⟩ => ?_
  subst he
  exact ⟨_, rfl, _, _, _, [], _, _, hW', trodAll_mk1 (shut_bool Tryz.underlying4 _), (trodAll_cons_mk (Below.trod laidOut (by kernel_rfl) (of_decide_eq_true (by kernel_rfl)) k0 bel lt0) trodAll_mk0), Below.trodVars laidOut bel (by kernel_rfl) hV, bel.frame _, fun h => by cases h⟩

theorem over : Rows.FnZlibSaid :=
  OpenClaim.holds_of_wide 3 Tryz.f3 rfl rfl rfl rfl rfl rfl rfl ⟨rfl, rfl, rfl, rfl, rfl⟩ rfl rfl rfl rfl rfl (by kernel_rfl) Tryz.func3 (by kernel_rfl)
    (of_decide_eq_true (by kernel_rfl)) (by unfold Func.isWrapper; first | (rw [if_pos (by decide +kernel)]; kernel_rfl) | (rw [if_neg (by decide +kernel)]; exact ⟨rfl, rfl⟩))
    (fun os started H enc _ => lifted os started H enc)

theorem looks (f : FuncId) (fn : Func) (hf : Tryz.prog.funcNamed Rows.fnZlibRow.func = some f) (hfn : Tryz.prog.funcs[f]? = some fn) : true = Tryz.prog.looks [] ∧ ∀ (j : Nat) t, fn.params[j]? = some t → Tryz.prog.wantsStandIn t = false := by
  obtain rfl : f = 3 := Option.some.inj ((show Tryz.prog.funcNamed Rows.fnZlibRow.func = some 3 by kernel_rfl).symm.trans hf) |>.symm
  obtain rfl : fn = Tryz.f3 := (Option.some.inj (Tryz.func3.symm.trans hfn)).symm
  refine ⟨by kernel_rfl, fun j t ht => ?_⟩
  rw [Tryz.params3] at ht
  have hm : t ∈ [22] := by simpa using Array.mem_of_getElem? ht
  have hall : ([22].all fun u => !Tryz.prog.wantsStandIn u) = true := by kernel_rfl
  exact (show Tryz.prog.wantsStandIn t = false by simpa using List.all_eq_true.1 hall t hm)
/-- THE CARD -/
theorem proved : Rows.FnZlibCardSaid :=
  ⟨Claim7.tied_new_at .later [.handle, .data] true (Claim7.new_of_sixth over Rows.fnZlibCard.stood.harness true rfl ⟨rfl, rfl⟩ (by kernel_rfl) (by kernel_rfl) looks) (by kernel_rfl), (fun D hD => by cases hD), fnZlib_row_tie, (fun h => by cases h), by kernel_rfl⟩
#print axioms proved
end Go.Proofs.YtbddkkfakkedaaaGreatDoor.fnZlib
