import Derived.Laws.BytesArg
import Derived.Deep.Cut
import Derived.Deep.CutRange
import Derived.Test.YtboniidgoepdcaaGreatDoorEAB
import Derived.Test.YtboniidgoepdcaaGreatDoorEAK
import Derived.Test.YtboniidgoepdcaaGreatDoorEAM
import Derived.Test.YtboniidgoepdcaaGreatDoorEBH
import Derived.Test.YtboniidgoepdcaaGreatDoorEBS
import Derived.Test.YtboniidgoepdcaaGreatDoorEBU
import Derived.Test.YtboniidgoepdcaaGreatDoorEBV
namespace Go.Proofs.YtboniidgoepdcaaGreatDoor
open Go.RowKit
set_option linter.unusedVariables false

/-- A row of bytes with zeros behind, M in all. -/
def pad (M : Nat) (Z : List Int) : List Int := Z ++ List.replicate (M - Z.length) 0
theorem pad_len (M : Nat) (Z : List Int) (h : Z.length ≤ M) : (pad M Z).length = M := by simp [pad]; omega
theorem pad_full (M : Nat) (Z : List Int) (h : Z.length = M) : pad M Z = Z := by simp [pad, h]
theorem pad_nil (M : Nat) : pad M [] = List.replicate M 0 := by simp [pad]
theorem pad_next (L : List Nat) (b M : Nat) (hL : Bin L) (hb : b ≤ 1) (hM : L.length / 8 < M) : ∃ x : Nat, (pad M (pk L)).getD (L.length / 8) 0 = (x : Int) ∧ x < 2 ^ (L.length % 8) ∧ (pad M (pk L)).set (L.length / 8) ((x + b * 2 ^ (L.length % 8) : Nat) : Int) = pad M (pk (L ++ [b])) := by
  have hlen := pk_len L
  by_cases h8 : L.length % 8 = 0
  · have hl : (pk L).length = L.length / 8 := by omega
    obtain ⟨m, hm⟩ : ∃ m, M - (pk L).length = m + 1 := ⟨M - (pk L).length - 1, by omega⟩
    refine ⟨0, ?_, Nat.two_pow_pos _, ?_⟩
    · unfold pad
      rw [hm, List.getD_eq_getElem?_getD, List.getElem?_append_right (by omega), hl, Nat.sub_self]
      rfl
    · rw [pk_snoc, pkOne, if_pos h8, h8]
      unfold pad
      rw [hm, List.set_append_right _ _ (by omega), hl, Nat.sub_self, List.replicate_succ, List.set_cons_zero, List.length_append]
      rw [show M - ((pk L).length + [(b : Int)].length) = m by rw [List.length_singleton]; omega, List.append_assoc]
      simp
  · obtain ⟨x, hx, hx2⟩ := pk_top L hL h8
    have hl : L.length / 8 < (pk L).length := by omega
    refine ⟨x, ?_, hx2, ?_⟩
    · unfold pad
      rw [List.getD_eq_getElem?_getD, List.getElem?_append_left hl, ← List.getD_eq_getElem?_getD]
      exact hx
    · rw [pk_snoc, pkOne, if_neg h8, hx]
      unfold pad
      rw [List.set_append_left _ _ hl, List.length_set]
      rfl
theorem pk_octets (L : List Nat) (hL : Bin L) : Octets (pk L) := by
  induction L using snoc_ind with
  | h0 => intro z hz; rw [pk_nil] at hz; cases hz
  | h1 L b ih =>
    have hb : b ≤ 1 := hL b (by simp)
    have ih := ih hL.left
    rw [pk_snoc]
    unfold pkOne
    split
    · intro z hz
      rcases List.mem_append.1 hz with h | h
      · exact ih z h
      · have e : z = (b : Int) := by simpa using h
        subst e
        omega
    · rename_i h8
      obtain ⟨x, hx, hx2⟩ := pk_top L hL.left h8
      intro z hz
      rcases List.mem_or_eq_of_mem_set hz with h | h
      · exact ih z h
      · rw [h, hx]
        have h1 : 2 ^ (L.length % 8) ≤ 2 ^ 7 := Nat.pow_le_pow_right (by decide) (by omega)
        have h2 : b * 2 ^ (L.length % 8) ≤ 1 * 2 ^ (L.length % 8) := Nat.mul_le_mul_right _ hb
        have h3 : (2 : Nat) ^ 7 = 128 := by decide
        omega
theorem rowZ5 (w : World) (t : TypeId) : Row (w.alloc (.cells #[.int .u8 0, .int .u8 0, .int .u8 0, .int .u8 0, .int .u8 0] t)) (some ⟨w.heap.size, 0, none⟩) [0, 0, 0, 0, 0] := by
  refine Row.of fun i hi => ?_
  have h : i = 0 ∨ i = 1 ∨ i = 2 ∨ i = 3 ∨ i = 4 := by simp at hi; omega
  rcases h with rfl | rfl | rfl | rfl | rfl <;> simp [go_sem]
theorem own_three (w : World) (B : Nat) (hB : B ≤ w.heap.size) : OwnsB 5 B (w.alloc (.cells #[.int .u8 1, .int .u8 1, .int .u8 0] 5)) (some ⟨w.heap.size, 0, none⟩) 3 (ib [1, 1, 0]) :=
  World.ownsRow_lit w #[.int .u8 1, .int .u8 1, .int .u8 0] 3 hB (by unfold maxLen; omega) rfl
end Go.Proofs.YtboniidgoepdcaaGreatDoor
namespace Go.Proofs.YtboniidgoepdcaaGreatDoor
open Go.RowKit
attribute [local go_sem ↓] Go.wp_at_zero Go.wp_at_succ
set_option linter.unusedVariables false

/-- The string over bytes that lie anywhere. -/
theorem conv_row (w : World) (ao : Option Addr) (cap : Nat) (zs : List Int) (h : Row w ao zs) :
    (convert 22 9 (.slice ao zs.length cap)).run Tryz.prog w = .ok (.string (strOfNums zs)) w := by
  cases ao with
  | none =>
    have : zs = [] := List.eq_nil_of_length_eq_zero (h.none_len rfl)
    subst this
    rw [run_convert_bytes_nil w 22 5 Tryz.underlying22 Tryz.underlying5 _ _ 9 Tryz.underlying9]
    rfl
  | some ad =>
    rcases Nat.eq_zero_or_pos zs.length with h0 | h0
    · have : zs = [] := List.eq_nil_of_length_eq_zero h0
      subst this
      rw [run_convert_bytes_string w 22 9 5 _ _ _ Tryz.underlying22 Tryz.underlying5 Tryz.underlying9, List.length_nil, run_bytesToString w ad 0 cap [] (by simpa using run_loadCells_list (P := Tryz.prog) w ad [] (by simp))]
      rfl
    · obtain ⟨b, off, e, hc⟩ := h.at h0
      simp only [Option.some.injEq] at e
      subst e
      exact run_convert_bytes_arg w 22 5 Tryz.underlying22 Tryz.underlying5 b off zs.length cap zs rfl hc 9 Tryz.underlying9
theorem lwBytes_same (ao bo : Option Addr) (ca cb : Nat) (zs : List Int) (w : World) (ha : Row w ao zs) (hb : Row w bo zs) :
    Calls Tryz.prog 13 #[.slice ao zs.length ca, .slice bo zs.length cb] w fun e w' => e = .returned (.bool true) ∧ w' = w := by
  have h1 := conv_row w ao ca zs ha
  have h2 := conv_row w bo cb zs hb
  clear ha hb
  generalize strOfNums zs = S at *
  go_enter Tryz.func13, Tryz.ntmps13
  go_wp2_with fail
  go_ret
  exact ⟨rfl, rfl⟩

end Go.Proofs.YtboniidgoepdcaaGreatDoor
namespace Go.Proofs.YtboniidgoepdcaaGreatDoor
open Go.RowKit
attribute [local go_sem ↓] Go.wp_at_zero Go.wp_at_succ
set_option linter.unusedVariables false

theorem IEnds.detE {s : Nat} {zs : List Int} {c cf cf' : IC} {k k' : Int} (h : IEnds s zs c k cf) (h' : IEnds s zs c k' cf') : k = k' ∧ cf = cf' := by
  obtain ⟨n, hn⟩ := h
  induction n generalizing c with
  | zero => exact hn.elim
  | succ n ih =>
    rcases hn with ⟨h1, rfl, rfl⟩ | ⟨h1, hs⟩ | ⟨h1, c', hs, h3⟩
    · rcases h'.cut with ⟨_, rfl, rfl⟩ | ⟨h2, _⟩ | ⟨h2, _⟩
      · exact ⟨rfl, rfl⟩
      · exact absurd h2 h1
      · exact absurd h2 h1
    · obtain ⟨e1, e2⟩ := h'.stop h1 hs
      exact ⟨e1.symm, e2.symm⟩
    · exact ih (h'.step h1 hs) h3
theorem blkS_oct (l : Nat) (hl : l ≤ 1) (d : List Int) (hd : Octets d) : Octets (blkS (l : Int) d) := by
  intro z hz
  unfold blkS headS at hz
  rcases List.mem_append.1 hz with h | h
  · simp only [List.mem_cons, List.not_mem_nil, or_false] at h
    rcases h with h | h | h | h | h <;> (subst h; omega)
  · exact hd z h
theorem encS_oct (P : Nat) (h0 : 0 < P) : ∀ (n : Nat) (zs : List Int), zs.length ≤ n → Octets zs → Octets (encS P zs) := by
  intro n
  induction n with
  | zero =>
    intro zs hn hz
    rw [encS_last (by omega)]
    exact blkS_oct 1 (by decide) zs hz
  | succ n ih =>
    intro zs hn hz
    by_cases h : zs.length ≤ P
    · rw [encS_last h]
      exact blkS_oct 1 (by decide) zs hz
    · rw [encS_more h0 (by omega)]
      intro z hm
      rcases List.mem_append.1 hm with h1 | h1
      · exact blkS_oct 0 (by decide) (zs.take P) (fun y hy => hz y (List.mem_of_mem_take hy)) z h1
      · exact ih (zs.drop P) (by rw [List.length_drop]; omega) (fun y hy => hz y (List.mem_of_mem_drop hy)) z h1
theorem en_inflS (zs A : List Int) (P : Nat) (h0 : 0 < P) (hp : P ≤ 65535) (hz : Octets zs) (hl : zs.length < 30) (hA : encS P zs = A) (aA : Option Addr) (cA ge : Nat) (W : World) (hr : Row W aA A) (hnil : aA = none → A.length = 0 ∧ cA = 0) (he : ge < W.heap.size) (hG : Glob W) :
    Calls Tryz.prog 9 #[.slice aA A.length cA, .int .i64 32768, .slice (some ⟨ge, 0, none⟩) 0 0] W fun e w' => InfIs 1 zs ((8 * A.length : Nat) : Int) e W w' := by
  subst hA
  have hlen := encS_len P h0 zs.length zs (Nat.le_refl _)
  have hoct := encS_oct P h0 zs.length zs (Nat.le_refl _) hz
  refine Calls.mono (iinflate_any aA (some ⟨ge, 0, none⟩) cA 0 (encS P zs) [] 32768 W hr hnil hoct (by omega) (by decide) (by decide) (Row.nil _ _) (Nat.le_refl _) (by unfold maxLen; omega) (fun ad e => by cases e; exact he) hG) ?_
  rintro e w' ⟨k', cf', hE', h⟩
  obtain ⟨cf, hE, hL1, hL2⟩ := st_all 32768 P h0 hp zs (by omega) hoct
  obtain ⟨rfl, rfl⟩ := hE.detE hE'
  rw [hL1] at h
  unfold iRes at h
  rw [if_pos rfl, hL2] at h
  exact h
theorem en_inflF (zs A : List Int) (F : Nat) (hz : Octets zs) (hl : zs.length < 30) (hA : pk (fixAll zs) = A) (hF : (fixAll zs).length = F) (hF2 : F ≤ 1000) (aA : Option Addr) (cA ge : Nat) (W : World) (hr : Row W aA A) (hnil : aA = none → A.length = 0 ∧ cA = 0) (he : ge < W.heap.size) (hG : Glob W) :
    Calls Tryz.prog 9 #[.slice aA A.length cA, .int .i64 1, .slice (some ⟨ge, 0, none⟩) 0 0] W fun e w' => InfIs 1 zs ((F : Nat) : Int) e W w' := by
  subst hA
  have hlen := pk_len (fixAll zs)
  refine Calls.mono (iinflate_any aA (some ⟨ge, 0, none⟩) cA 0 (pk (fixAll zs)) [] 1 W hr hnil (pk_octets _ (fixAll_bin zs)) (by omega) (by decide) (by decide) (Row.nil _ _) (Nat.le_refl _) (by unfold maxLen; omega) (fun ad e => by cases e; exact he) hG) ?_
  rintro e w' ⟨k', cf', hE', h⟩
  obtain ⟨cf, hE, hL1, hL2⟩ := fx_all zs hz (by omega)
  obtain ⟨rfl, rfl⟩ := hE.detE hE'
  rw [hL1] at h
  unfold iRes at h
  rw [if_pos rfl, hL2, hF] at h
  exact h
theorem lawEn_big (co : Option Addr) (n cc : Nat) (w : World) (hn : n ≤ 9223372036854775807) (hbig : 1048576 < n) :
    Calls Tryz.prog 4 #[.slice co n cc] w fun e w' => e = .returned (.bool true) ∧ Below w.heap.size w w' := by
  go_enter Tryz.func4, Tryz.ntmps4
  go_wp2_with fail
  go_ret
  exact ⟨rfl, Below.refl _ _⟩
set_option maxRecDepth 100000 in
set_option maxHeartbeats 25600000 in
theorem lawEn (co : Option Addr) (cc : Nat) (cs : List Int) (w : World) (hr : Row w co cs) (hoct : Octets cs) (hn : cs.length ≤ 1048576) (hG : Glob w) :
    Calls Tryz.prog 4 #[.slice co cs.length cc] w fun e w' => e = .returned (.bool true) ∧ Below w.heap.size w w' := by
  have HG := hideM hG
  have hGs := hG.sz
  have DR := hideM (drawES_any co cc cs w hr hoct hn)
  clear hr hoct hG
  go_enter Tryz.func4, Tryz.ntmps4
  go_wp2_with fail
  refine Calls.mono DR.out ?_
  rintro e w1 ⟨aD, cD, zs, per, rfl, hoD, hocD, hlD, hper, hb1⟩
  have D1 := hideM hoD.mine
  have HOC := hideM hocD
  have L1 := hideM hb1
  have hmost := hoD.mine.most
  unfold maxLen at hmost
  have ES := hideM (iencS_any aD cD zs per w1 hoD.mine.row hoD.mine.fits (by omega) hoD.mine.nil_len)
  have HLD := hideM hlD
  have hzl : zs.length ≤ 100 := by omega
  clear hoD hocD hb1 DR hmost hlD
  go_wp2_with fail
  refine Calls.mono ES.out ?_
  rintro e w2 ⟨aA, cA, rfl, hoA, hbA⟩
  have D2 := hideM (D1.out.below hbA)
  have L2 := hideM (L1.out.trans (hbA.mono L1.out.size))
  by_cases hp : per < 1 ∨ 65535 < per
  · have hA0 : encR per zs = [] := encR_no (by omega)
    rw [hA0]
    clear hoA hbA D1 D2 L1 ES hA0
    rcases hp with hp1 | hp1
    · have hd1 : decide (per < 1) = true := decide_eq_true hp1
      go_wp2_with fail
      go_ret
      exact ⟨rfl, L2.out⟩
    · have hd1 : decide (per < 1) = false := decide_eq_false (by omega)
      have hd2 : decide (per > 65535) = true := decide_eq_true hp1
      have hnl : ¬ per < 1 := by omega
      go_wp2_with fail
      go_ret
      exact ⟨rfl, L2.out⟩
  · obtain ⟨P, rfl⟩ : ∃ P : Nat, per = (P : Int) := ⟨per.toNat, by omega⟩
    have hP0 : 1 ≤ P := by omega
    have hP1 : P ≤ 65535 := by omega
    have hA := encR_yes (P := P) (zs := zs) (by omega) (by omega) (by omega)
    rw [hA] at hoA ⊢
    have hAl := encS_len P (by omega) zs.length zs (Nat.le_refl _)
    obtain ⟨A, hAe⟩ : ∃ A, encS P zs = A := ⟨_, rfl⟩
    rw [hAe] at hoA hAl ⊢
    have MA : Hid (Mine w1.heap.size w2 aA cA A) := OwnsB.mine (e := 5) hoA
    have HAE := hideM hAe
    have hd1 : decide ((P : Int) < 1) = false := decide_eq_false (by omega)
    have hd2 : decide ((P : Int) > 65535) = false := decide_eq_false (by omega)
    have hA1 : A.length ≤ 1000 := by omega
    have be : Below w2.heap.size w2 (w2.alloc (.cells #[] 5)) := (Below.refl _ _).alloc (Nat.le_refl _) _
    have De := hideM (D2.out.below be)
    have Le := hideM (L2.out.trans (be.mono L2.out.size))
    have INF := hideM (en_inflS zs A P (by omega) (by omega) HOC.out HLD.out hAe aA cA w2.heap.size (w2.alloc (.cells #[] 5)) (MA.out.below be).row (MA.out.nil_len) (by simp) (HG.out.below Le.out hGs))
    clear hp hA hAe hoA hbA D1 D2 L1 L2 ES be MA hAl hper
    go_wp2_with fail
    clear hd1 hd2
    refine Calls.mono INF.out ?_
    rintro e w3 ⟨aX, cX, rfl, hoX, hbX⟩
    have D3 := hideM (De.out.below hbX)
    have L3 := hideM (Le.out.trans (hbX.mono Le.out.size))
    have X3 := hideM hoX.mine
    obtain ⟨N1, hN1⟩ : ∃ N1 : Int, ((8 * A.length : Nat) : Int) = N1 := ⟨_, rfl⟩
    have hN1b : (N1 == 8 * (A.length : Int)) = true := by rw [← hN1]; simp
    rw [hN1]
    clear hoX hbX De Le INF hN1
    have hb4 : Below w3.heap.size w3 (w3.alloc (.cells #[.int .i64 1, .slice aX zs.length cX, .int .i64 N1] 34)) := (Below.refl _ _).alloc (Nat.le_refl _) _
    have G4 := hideM (rs3v_new w3 (.int .i64 1) (.slice aX zs.length cX) (.int .i64 N1) 34)
    have D4 := hideM (D3.out.below hb4)
    have L4 := hideM (L3.out.trans (hb4.mono L3.out.size))
    have X4 := hideM (X3.out.below hb4)
    clear D3 L3 X3 hb4
    go_upto_region 8 with fail
    have z4 : w3.heap.size < (w3.alloc (.cells #[.int .i64 1, .slice aX zs.length cX, .int .i64 N1] 34)).heap.size := World.block_lt_of_cell? _ _ G4.out.c0
    generalize w3.alloc (.cells #[.int .i64 1, .slice aX zs.length cX, .int .i64 N1] 34) = w4 at *
    have EF := hideM (iencF_any aD cD zs w4 D4.out.row HOC.out (by omega))
    go_wp2_with fail
    refine Calls.mono EF.out ?_
    rintro e w5 ⟨aB, cB, rfl, hoB, hbB⟩
    have hB := encF_yes (zs := zs) (by omega)
    rw [hB] at hoB ⊢
    obtain ⟨Bl, hBe⟩ : ∃ B, pk (fixAll zs) = B := ⟨_, rfl⟩
    obtain ⟨F, hF⟩ : ∃ F, (fixAll zs).length = F := ⟨_, rfl⟩
    have hF1 : F ≤ 1000 := by
      rw [← hF]
      unfold fixAll
      have h1 := fixB_len zs zs.length
      have h2 := cbits_len 256
      rw [List.length_append]
      omega
    have hBl : Bl.length = (F + 7) / 8 := by rw [← hBe, pk_len, hF]
    rw [hBe] at hoB ⊢
    have MB : Hid (Mine w4.heap.size w5 aB cB Bl) := OwnsB.mine (e := 5) hoB
    have D5 := hideM (D4.out.below hbB)
    have L5 := hideM (L4.out.trans (hbB.mono L4.out.size))
    have X5 := hideM (X4.out.below hbB)
    have G5 := hideM (G4.out.below hbB z4)
    have be : Below w5.heap.size w5 (w5.alloc (.cells #[] 5)) := (Below.refl _ _).alloc (Nat.le_refl _) _
    have De := hideM (D5.out.below be)
    have Le := hideM (L5.out.trans (be.mono L5.out.size))
    have Xe := hideM (X5.out.below be)
    have z5 : w3.heap.size < w5.heap.size := Nat.lt_of_lt_of_le z4 hbB.size
    have Ge := hideM (G5.out.below be z5)
    have INF := hideM (en_inflF zs Bl F HOC.out HLD.out hBe hF hF1 aB cB w5.heap.size (w5.alloc (.cells #[] 5)) (MB.out.below be).row (MB.out.nil_len) (by simp) (HG.out.below Le.out hGs))
    obtain ⟨LB, hLB⟩ : ∃ LB, Bl.length = LB := ⟨_, rfl⟩
    rw [hLB] at INF hBl ⊢
    have hq : ((F : Int) + 7).tdiv 8 = (LB : Int) := by rw [Int.tdiv_eq_ediv_of_nonneg (by omega), hBl]; omega
    have ze : w3.heap.size < (w5.alloc (.cells #[] 5)).heap.size := by simp; omega
    have hlw : wrap64 (LB : Int) = (LB : Int) := by unfold wrap64; omega
    have HQ := hideM hq
    clear hB hoB hBe hF hBl hbB MB D4 L4 X4 G4 D5 L5 X5 G5 EF be hLB z4 hq
    go_wp2_with fail
    refine Calls.mono INF.out ?_
    rintro e w6 ⟨aY, cY, rfl, hoY, hbY⟩
    have D6 := hideM (De.out.below hbY)
    have L6 := hideM (Le.out.trans (hbY.mono Le.out.size))
    have X6 := hideM (Xe.out.below hbY)
    have G6 := hideM (Ge.out.below hbY ze)
    have Y6 := hideM hoY.mine
    have z6 : w3.heap.size < w6.heap.size := Nat.lt_of_lt_of_le ze hbY.size
    have hb7 : Below w6.heap.size w6 (w6.alloc (.cells #[.int .i64 1, .slice aY zs.length cY, .int .i64 ((F : Nat) : Int)] 34)) := (Below.refl _ _).alloc (Nat.le_refl _) _
    have H7 := hideM (rs3v_new w6 (.int .i64 1) (.slice aY zs.length cY) (.int .i64 ((F : Nat) : Int)) 34)
    have D7 := hideM (D6.out.below hb7)
    have L7 := hideM (L6.out.trans (hb7.mono L6.out.size))
    have X7 := hideM (X6.out.below hb7)
    have Y7 := hideM (Y6.out.below hb7)
    have G7 := hideM (G6.out.below hb7 z6)
    clear hoY hbY De Le Xe Ge INF D6 L6 X6 G6 Y6 hb7 ze z5
    go_upto_region 10 with fail
    have z7 : w6.heap.size < (w6.alloc (.cells #[.int .i64 1, .slice aY zs.length cY, .int .i64 ((F : Nat) : Int)] 34)).heap.size := World.block_lt_of_cell? _ _ H7.out.c0
    generalize w6.alloc (.cells #[.int .i64 1, .slice aY zs.length cY, .int .i64 ((F : Nat) : Int)] 34) = w7 at *
    have LW1 := hideM (lwBytes_same aX aD cX cD zs w7 X7.out.row D7.out.row)
    have LW2 := hideM (lwBytes_same aY aD cY cD zs w7 Y7.out.row D7.out.row)
    obtain ⟨p0, p1, p2, _⟩ := G7.out
    obtain ⟨q0, q1, q2, _⟩ := H7.out
    have hq := HQ.out
    clear D7 X7 Y7 G7 H7 HQ HAE HOC HLD
    have hz37 : w3.heap.size < w7.heap.size := by omega
    go_wp2_with fail
    refine Calls.mono LW1.out ?_
    rintro e w8 ⟨rfl, hw8⟩
    obtain rfl := hw8.symm
    go_wp2_with fail
    refine Calls.mono LW2.out ?_
    rintro e w8 ⟨rfl, hw8⟩
    obtain rfl := hw8.symm
    go_wp2_with fail
    go_ret
    exact ⟨rfl, L7.out⟩
end Go.Proofs.YtboniidgoepdcaaGreatDoor
