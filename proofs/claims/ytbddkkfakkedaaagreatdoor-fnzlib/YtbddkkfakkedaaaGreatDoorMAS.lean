import Derived.BigRegion
import Derived.Test.YtbddkkfakkedaaaGreatDoorMAJ
import Derived.Test.YtbddkkfakkedaaaGreatDoorMAQ
import Derived.Test.YtbddkkfakkedaaaGreatDoorMAR
namespace Go.Proofs.YtbddkkfakkedaaaGreatDoor
open Go.RowKit
attribute [local go_sem ↓] Go.wp_at_zero Go.wp_at_succ
set_option linter.unusedVariables false

/-- A writer of bits in block p: what it has written. -/
structure BW (w : World) (p : Nat) (L : List Nat) : Prop where
  code : ∃ ao cap, w.cell? ⟨p, 0, none⟩ = some (.slice ao (pk L).length cap) ∧ OwnsB 5 (p + 1) w ao cap (pk L)
  used : w.cell? ⟨p, 1, none⟩ = some (.int .i64 (L.length : Nat))
  f0 : w.frozen? ⟨p, 0, none⟩ = false
  f1 : w.frozen? ⟨p, 1, none⟩ = false
theorem BW.lt {w : World} {p : Nat} {L : List Nat} (h : BW w p L) : p < w.heap.size := World.block_lt_of_cell? w _ h.used
theorem BW.below {w w' : World} {p : Nat} {L : List Nat} (h : BW w p L) (hb : Below w.heap.size w w') : BW w' p L := by
  obtain ⟨⟨ao, cap, h1, h2⟩, h3, h4, h5⟩ := h
  have hp := World.block_lt_of_cell? w _ h3
  exact ⟨⟨ao, cap, (hb.cell (p := ⟨p, 0, none⟩) hp).trans h1, h2.below hb⟩, (hb.cell (p := ⟨p, 1, none⟩) hp).trans h3, (hb.frozen (p := ⟨p, 0, none⟩) hp).trans h4, (hb.frozen (p := ⟨p, 1, none⟩) hp).trans h5⟩
theorem OwnsB.at {B : Nat} {e : TypeId} {w : World} {ao : Option Addr} {cap : Nat} {zs : List Int} (h : OwnsB e B w ao cap zs) (h0 : 0 < zs.length) : ∃ g, ao = some ⟨g, 0, none⟩ ∧ B ≤ g ∧ g < w.heap.size ∧ zs.length ≤ cap := by
  rcases h.2 with ⟨_, h1⟩ | ⟨g', cap', cur, h1, h2, h3, h4, _⟩
  · omega
  · simp only [Value.slice.injEq, true_and] at h1
    obtain ⟨rfl, rfl⟩ := h1
    exact ⟨g', rfl, h2, (Array.getElem?_eq_some_iff.1 h3).1, h4⟩
theorem OwnsB.cell {B g : Nat} {e : TypeId} {w : World} {cap : Nat} {zs : List Int} (h : OwnsB e B w (some ⟨g, 0, none⟩) cap zs) {k : Nat} (hk : k < zs.length) : w.cell? ⟨g, k, none⟩ = some (.int .u8 (zs.getD k 0)) := by
  have := World.ownsRow.cellAt h k (by omega)
  rw [this]
  simp [List.getD, hk]
theorem OwnsB.set {B g : Nat} {e : TypeId} {w : World} {cap : Nat} {zs : List Int} (h : OwnsB e B w (some ⟨g, 0, none⟩) cap zs) (k : Nat) (x : Int) : OwnsB e B (w.setCell ⟨g, k, none⟩ (.int .u8 x)) (some ⟨g, 0, none⟩) cap (zs.set k x) := by
  have h1 := (World.ownsRow.stored h k (.int .u8 x)).1
  unfold OwnsB
  rw [List.length_set, List.map_set]
  exact h1
theorem row_oneB (w : World) (x : Int) (t : TypeId) : Row (w.alloc (.cells #[.int .u8 x] t)) (some ⟨w.heap.size, 0, none⟩) [x] := by
  refine Row.of fun i hi => ?_
  simp at hi
  subst hi
  simp [go_sem]
theorem BW.finish {w wr : World} {p g I cap U b : Nat} {Z : List Int} {v : Int} {M : List Nat} (ho : OwnsB 5 (p + 1) wr (some ⟨g, 0, none⟩) cap Z) (c0 : wr.cell? ⟨p, 0, none⟩ = some (.slice (some ⟨g, 0, none⟩) Z.length cap)) (c1 : wr.cell? ⟨p, 1, none⟩ = some (.int .i64 U)) (f0 : wr.frozen? ⟨p, 0, none⟩ = false) (f1 : wr.frozen? ⟨p, 1, none⟩ = false)
    (hZ : Z.set I v = pk (M ++ [b])) (hU : M.length = U) (hb : Below p w wr) (hgp : p + 1 ≤ g) : BW (((wr.setCell ⟨g, I, none⟩ (.int .u8 v)).drew).setCell ⟨p, 1, none⟩ (.int .i64 ((U : Int) + 1))) p (M ++ [b]) ∧ Below p w (((wr.setCell ⟨g, I, none⟩ (.int .u8 v)).drew).setCell ⟨p, 1, none⟩ (.int .i64 ((U : Int) + 1))) := by
  have hpw : p < wr.heap.size := World.block_lt_of_cell? wr _ c1
  have o1 := ho.set I v
  rw [hZ] at o1
  have hd : Below (wr.setCell ⟨g, I, none⟩ (.int .u8 v)).heap.size (wr.setCell ⟨g, I, none⟩ (.int .u8 v)) (wr.setCell ⟨g, I, none⟩ (.int .u8 v)).drew := (Below.refl _ _).drew
  have o2 := o1.below hd
  have o3 := o2.grown (grownBy_setCell _ ⟨p, 1, none⟩ (.int .i64 ((U : Int) + 1))) (fun k e he => by simp [blk] at e he; omega)
  have d0 : (wr.setCell ⟨g, I, none⟩ (.int .u8 v)).drew.cell? ⟨p, 0, none⟩ = some (.slice (some ⟨g, 0, none⟩) Z.length cap) := by
    rw [← c0]
    exact World.cell?_setCell_other _ _ _ _ (by first | (simp; done) | (simp; omega))
  have d1 : (wr.setCell ⟨g, I, none⟩ (.int .u8 v)).drew.cell? ⟨p, 1, none⟩ = some (.int .i64 U) := by
    rw [← c1]
    exact World.cell?_setCell_other _ _ _ _ (by first | (simp; done) | (simp; omega))
  have hl : Z.length = (pk (M ++ [b])).length := by rw [← hZ, List.length_set]
  refine ⟨⟨⟨some ⟨g, 0, none⟩, cap, ?_, o3⟩, ?_, ?_, ?_⟩, ?_⟩
  · rw [World.cell?_setCell_other _ _ _ _ (by simp), d0, hl]
  · rw [World.cell?_setCell_same _ _ _ d1]
    simp [hU]
  · rw [World.frozen?_setCell]
    show (wr.setCell _ _).frozen? _ = _
    rw [World.frozen?_setCell]
    exact f0
  · rw [World.frozen?_setCell]
    show (wr.setCell _ _).frozen? _ = _
    rw [World.frozen?_setCell]
    exact f1
  · have x1 := hb.setCell (p := ⟨g, I, none⟩) (by show p ≤ g; omega) (.int .u8 v)
    exact (x1.drew).setCell (p := ⟨p, 1, none⟩) (Nat.le_refl _) _
set_option maxRecDepth 100000 in
set_option maxHeartbeats 6400000 in
/-- The end of a round: one bit into a byte that is there. -/
theorem bitput_any (p V n : Nat) (L : List Nat) (w : World) (hW : BW w p L) (hL : Bin L) (hn : n ≤ 64) (hV : V < 2 ^ 64) (hl : L.length ≤ 2000000) :
    Calls Tryz.prog 49 #[.pointer (some ⟨p, 0, none⟩), .int .u64 V, .int .i64 n] w fun e w' => e = .returned (.tuple #[]) ∧ BW w' p (L ++ bitsOf V n) ∧ Below p w w' := by
  obtain ⟨i0, hi, hz0, hz1, hz2⟩ := info_parts Tryz.info_u8
  have HW := hideH hW
  have HL := hideH hL
  have hpw := hW.lt
  clear hW hL
  go_enter Tryz.func49, Tryz.ntmps49
  go_wp2_with fail
  go_loopw [8] (fun i wr => ∃ k : Nat, k ≤ n ∧ i = .int .i64 k ∧ Hid (BW wr p (L ++ bitsOf V k)) ∧ Hid (Below p w wr)) (fun i _ => n - (intOf i).toNat)
  case atStart => exact ⟨0, Nat.zero_le _, rfl, by show BW w p _; rw [bitsOf_zero, List.append_nil]; exact HW.out, Below.refl _ _⟩
  case round =>
    clear HW
    obtain ⟨k, hk, rfl, HW, HB⟩ := hrel
    by_cases hlt : k < n
    · obtain ⟨M, hM⟩ : ∃ M, L ++ bitsOf V k = M := ⟨_, rfl⟩
      have hbM : Bin M := by rw [← hM]; exact HL.out.app (bitsOf_bin V k)
      have hMl : M.length = L.length + k := by rw [← hM, List.length_append, bitsOf_len]
      obtain ⟨b, hb⟩ : ∃ b, V / 2 ^ k % 2 = b := ⟨_, rfl⟩
      have hb1 : b ≤ 1 := by omega
      have HNX : Hid (L ++ bitsOf V (k + 1) = M ++ [b]) := by show _ = _; rw [bitsOf_succ, hb, ← hM, List.append_assoc]
      have hVk : V / 2 ^ k < 2 ^ 64 := Nat.lt_of_le_of_lt (Nat.div_le_self _ _) hV
      have hand := and_one (V / 2 ^ k) hVk
      rw [hb] at hand
      rw [hM] at HW
      have hsh : (V : Int) / 2 ^ k = ((V / 2 ^ k : Nat) : Int) := by
        rw [show ((2 : Int) ^ k) = ((2 ^ k : Nat) : Int) from (Int.natCast_pow 2 k).symm]
        exact (Int.natCast_ediv V (2 ^ k)).symm
      generalize V / 2 ^ k = V2 at *
      have hVw : IntKind.u64.wrap (V2 : Int) = (V2 : Int) := by rw [IntKind.wrap_u64]; omega
      obtain ⟨⟨ao, cap, c0, ho⟩, c1, f0, f1⟩ := HW.out
      obtain ⟨U, hU⟩ : ∃ U, M.length = U := ⟨_, rfl⟩
      rw [hU] at c1 hMl
      have hpl := pk_len M
      rw [hU] at hpl
      obtain ⟨I, hI⟩ : ∃ I, U / 8 = I := ⟨_, rfl⟩
      obtain ⟨r, hr⟩ : ∃ r, U % 8 = r := ⟨_, rfl⟩
      have hr8 : r < 8 := by omega
      have hIi : (U : Int) / 8 = (I : Int) := by omega
      have hIt : (U : Int).tdiv 8 = (I : Int) := by rw [Int.tdiv_eq_ediv_of_nonneg (by omega)]; exact hIi
      have hri : (U : Int) % 8 = (r : Int) := by omega
      have hrt : (U : Int).tmod 8 = (r : Int) := by rw [Int.tmod_eq_emod_of_nonneg (by omega)]; exact hri
      have hU2 : U ≤ 2000100 := by omega
      obtain ⟨T, hT⟩ : ∃ T, b * 2 ^ r = T := ⟨_, rfl⟩
      have hT1 : T ≤ 128 := by
        rw [← hT]
        have h1 : 2 ^ r ≤ 2 ^ 7 := Nat.pow_le_pow_right (by decide) (by omega)
        have h2 : b * 2 ^ r ≤ 1 * 2 ^ r := Nat.mul_le_mul_right _ hb1
        omega
      have hshl : IntKind.u8.wrap ((b : Int) * 2 ^ r) = (T : Int) := by
        rw [show ((2 : Int) ^ r) = ((2 ^ r : Nat) : Int) from (Int.natCast_pow 2 r).symm, ← Int.natCast_mul, hT]
        simp [IntKind.wrap, IntKind.bits, IntKind.signed]
        omega
      have hbw : IntKind.u8.wrap (b : Int) = (b : Int) := by
        simp [IntKind.wrap, IntKind.bits, IntKind.signed]
        omega
      have hb256 : (b : Int) % 256 = (b : Int) := by omega
      have hplt : p < wr.heap.size := HW.out.lt
      have HU := hideH hU
      have HI := hideH hI
      have HR := hideH hr
      have HT := hideH hT
      have HBM := hideH hbM
      have HO := hideH ho
      have HPL := hideH hpl
      clear hM hU hI hT hbM ho HW hb hVk hV hMl hpl hr
      by_cases h8 : r = 0
      · subst h8
        have HOA := hideH (fun A t => HO.out.below ((Below.refl _ _).alloc (Nat.le_refl _) (.cells A t)))
        have HBA := hideH (fun A t => HB.out.trans (((Below.refl _ _).alloc (Nat.le_refl _) (.cells A t)).mono (Nat.le_of_lt hplt)))
        have hpl8 : (pk M).length = I := by rw [HPL.out, ← HI.out]; have := HR.out; omega
        have hb0 : T = b := by rw [← HT.out]; simp
        have hsz : p + 1 ≤ wr.heap.size := hplt
        have hz0' : (pk M).length ≤ 1000000 := by rw [hpl8, ← HI.out]; omega
        have HPL8 := hideH hpl8
        clear hpl8
        go_wp2_with (at_builtin; refine wpList_append_row _ rfl _ _ 22 rfl (p + 1) 5 i0 (.int .u8 0) 1 Tryz.underlying22 hi hz0 hz1 hz2 rfl (.slice ao (pk M).length cap) (pk M).length ((pk M).map (Value.int .u8)) rfl (HOA.out _ _) (some ⟨wr.heap.size, 0, none⟩) 1 [0] rfl (row_oneB wr 0 5) (fun e => by cases e) (by unfold maxLen; simp; omega) (by simp; omega) (by simp; omega) ?_)
        intro v' w2 hown hgrow hat
        have hown2 : w2.ownsRow (p + 1) 5 1 v' ((pk M).length + 1) ((pk M ++ [0]).map (Value.int .u8)) := by
          rw [List.map_append]
          exact hown
        obtain ⟨ao2, cap2, rfl, ho2⟩ := OwnsB.of hown2
        rw [blk_own] at hgrow
        have hB2 : Below p w w2 := (HBA.out _ _).grown hgrow (by simp; omega) (fun q e => by have := HO.out.base q e; omega)
        have hblk : w2.heap[p]? = wr.heap[p]? := (hgrow.block p (by simp; omega) (fun e => by have := HO.out.base p e.symm; omega)).trans ((grownBy_of_below ((Below.refl wr.heap.size wr).alloc (Nat.le_refl _) (.cells #[.int .u8 0] 5)) none).block p hplt (by simp))
        have d0 := (World.cell?_of_block (a := ⟨p, 0, none⟩) hblk).trans c0
        have d1 := (World.cell?_of_block (a := ⟨p, 1, none⟩) hblk).trans c1
        have e0 := (World.frozen?_of_block (a := ⟨p, 0, none⟩) hblk).trans f0
        have e1 := (World.frozen?_of_block (a := ⟨p, 1, none⟩) hblk).trans f1
        have hp2 : p < w2.heap.size := World.block_lt_of_cell? w2 _ d1
        obtain ⟨Z, hZ⟩ : ∃ Z, pk M ++ [0] = Z := ⟨_, rfl⟩
        rw [hZ] at ho2 ⊢
        have hZl : Z.length = I + 1 := by rw [← hZ, List.length_append, HPL8.out]; rfl
        obtain ⟨g, rfl, hgp, hgw, hgc⟩ := ho2.at (by omega)
        have ho3 := ho2.grown (grownBy_setCell w2 ⟨p, 0, none⟩ (.slice (some ⟨g, 0, none⟩) Z.length cap2)) (fun k e he => by simp [blk] at e he; omega)
        have g0 : (w2.setCell ⟨p, 0, none⟩ (.slice (some ⟨g, 0, none⟩) Z.length cap2)).cell? ⟨p, 0, none⟩ = some (.slice (some ⟨g, 0, none⟩) Z.length cap2) := World.cell?_setCell_same _ _ _ d0
        have g1 : (w2.setCell ⟨p, 0, none⟩ (.slice (some ⟨g, 0, none⟩) Z.length cap2)).cell? ⟨p, 1, none⟩ = some (.int .i64 U) := by rw [World.cell?_setCell_other _ _ _ _ (by simp)]; exact d1
        have h0' : (w2.setCell ⟨p, 0, none⟩ (.slice (some ⟨g, 0, none⟩) Z.length cap2)).frozen? ⟨p, 0, none⟩ = false := by rw [World.frozen?_setCell]; exact e0
        have h1' : (w2.setCell ⟨p, 0, none⟩ (.slice (some ⟨g, 0, none⟩) Z.length cap2)).frozen? ⟨p, 1, none⟩ = false := by rw [World.frozen?_setCell]; exact e1
        have cx := ho3.cell (k := I) (by omega)
        have fx : (w2.setCell ⟨p, 0, none⟩ (.slice (some ⟨g, 0, none⟩) Z.length cap2)).frozen? ⟨g, I, none⟩ = false := World.ownsRow.frozenAt ho3 I
        have hx0 : Z.getD I 0 = 0 := by rw [← hZ, ← HPL8.out]; simp [List.getD]
        rw [hx0] at cx
        have hor : bits .or .u8 (0 : Int) (b : Int) = (b : Int) := by simpa using or_add 0 0 b (by decide) hb1 (by decide)
        have hNEW : Z.set I (b : Int) = pk (M ++ [b]) := by
          rw [pk_snoc, pkOne, HU.out, if_pos HR.out, ← hZ, ← HPL8.out, List.set_append_right _ _ (Nat.le_refl _), Nat.sub_self]
          rfl
        have hB3 := hB2.setCell (p := ⟨p, 0, none⟩) (Nat.le_refl _) (.slice (some ⟨g, 0, none⟩) Z.length cap2)
        obtain ⟨KB, KL⟩ := BW.finish (I := I) ho3 g0 g1 h0' h1' hNEW HU.out hB3 hgp
        have HKB := hideH KB
        have HKL := hideH KL
        have hI3 : I < Z.length := by omega
        have hp3 : p < (w2.setCell ⟨p, 0, none⟩ (.slice (some ⟨g, 0, none⟩) Z.length cap2)).heap.size := by simpa using hp2
        subst hb0
        clear hown hown2 hgrow hat KB KL hB2 hB3 hNEW hx0 ho2 ho3 hblk c0 c1 f0 f1 HOA HBA hZl hZ
        obtain ⟨w3, hw3⟩ : ∃ w3, w2.setCell ⟨p, 0, none⟩ (.slice (some ⟨g, 0, none⟩) Z.length cap2) = w3 := ⟨_, rfl⟩
        rw [hw3] at HKB HKL g0 g1 h0' h1' cx fx hp3
        have G0 := hideH g0
        have G1 := hideH g1
        have CX := hideH cx
        clear g0 g1 cx
        go_upto_region 5 with fail
        have g0 := G0.out
        have g1 := G1.out
        have cx := CX.out
        clear hw3 d0 d1 e0 e1
        go_region
        go_wp2_with fail
        refine ⟨⟨k + 1, by omega, by go_num, ?_, ?_⟩, by simp [intOf]; omega⟩
        · show BW _ p _
          rw [HNX.out]
          exact HKB.out
        · exact HKL
      · have hrb : ((r : Int) == 0) = false := by rw [beq_eq_false_iff_ne]; omega
        have hI2 : I < (pk M).length := by rw [HPL.out, ← HI.out]; have := HR.out; omega
        obtain ⟨g, rfl, hgp, hgw, hgc⟩ := HO.out.at (by omega)
        obtain ⟨x, hx, hx2⟩ := pk_top M HBM.out (by rw [HU.out, HR.out]; exact h8)
        rw [HU.out, HI.out] at hx
        rw [HU.out, HR.out] at hx2
        have cx := HO.out.cell hI2
        rw [hx] at cx
        have fx : wr.frozen? ⟨g, I, none⟩ = false := World.ownsRow.frozenAt HO.out I
        have hor := or_add r x b hr8 hb1 hx2
        rw [HT.out, Int.natCast_add] at hor
        have HNEW : Hid ((pk M).set I ((x : Int) + (T : Int)) = pk (M ++ [b])) := by
          show _ = _
          rw [pk_snoc, pkOne, HU.out, HR.out, if_neg h8, HI.out, hx, HT.out]
        clear hx hx2
        obtain ⟨KB, KL⟩ := BW.finish (I := I) HO.out c0 c1 f0 f1 HNEW.out HU.out HB.out hgp
        have HKB := hideH KB
        have HKL := hideH KL
        clear KB KL
        go_upto_region 5 with fail
        go_region
        go_wp2_with fail
        refine ⟨⟨k + 1, by omega, by go_num, ?_, ?_⟩, by simp [intOf]; omega⟩
        · show BW _ p _
          rw [HNX.out]
          exact HKB.out
        · exact HKL
    · have e : k = n := by omega
      subst e
      go_wp2_with fail
      go_end0
      exact ⟨rfl, HW.out, HB.out⟩
end Go.Proofs.YtbddkkfakkedaaaGreatDoor
namespace Go.Proofs.YtbddkkfakkedaaaGreatDoor
open Go.RowKit
set_option linter.unusedVariables false

/-- The bits of a symbol's fixed code. -/
def cbits (i : Nat) : List Nat := bitsOf (code F288 i).2 (code F288 i).1
/-- The bits that are written before byte k. -/
def fixB (zs : List Int) : Nat → List Nat
  | 0 => [] ++ bitsOf 1 1 ++ bitsOf 1 2
  | k + 1 => fixB zs k ++ cbits (zs.getD k 0).toNat
def fixAll (zs : List Int) : List Nat := fixB zs zs.length ++ cbits 256
/-- What EncodeFixed answers. -/
def encF (zs : List Int) : List Int := if 100000 < zs.length then [] else pk (fixAll zs)
theorem encF_no {zs : List Int} (h : 100000 < zs.length) : encF zs = [] := if_pos h
theorem encF_yes {zs : List Int} (h : zs.length ≤ 100000) : encF zs = pk (fixAll zs) := if_neg (by omega)
theorem F288_most : ∀ z ∈ F288, 0 ≤ z ∧ z ≤ 9 := by decide +kernel
theorem F288_ok : okC F288 = true := by decide +kernel
theorem F288_nC : nC F288 = 288 := by rw [nC, F288_ok, F288_len]; rfl
theorem code_len (i : Nat) : (code F288 i).1 ≤ 9 := by
  have h : (F288.getD i 0).toNat ≤ 9 := by
    by_cases hi : i < F288.length
    · have := F288_most (F288.getD i 0) (by simp [List.getD, hi])
      omega
    · simp [List.getD, hi]
  unfold code
  split
  · exact Nat.zero_le _
  · exact h
theorem code_bits (i : Nat) : (code F288 i).2 < 2 ^ 64 := by
  unfold code
  split
  · exact Nat.pos_of_ne_zero (by simp)
  · refine Nat.lt_of_lt_of_le (tr_lt _ _) (Nat.pow_le_pow_right (by decide) ?_)
    have := code_len i
    unfold code at this
    rename_i h
    rw [if_neg h] at this
    have h2 : (F288.getD i 0).toNat ≤ 9 := this
    omega
theorem cbits_len (i : Nat) : (cbits i).length ≤ 9 := by unfold cbits; rw [bitsOf_len]; exact code_len i
theorem fixB_len (zs : List Int) (k : Nat) : (fixB zs k).length ≤ 3 + 9 * k := by
  induction k with
  | zero => simp [fixB, bitsOf_len]
  | succ k ih =>
    rw [fixB, List.length_append]
    have := cbits_len (zs.getD k 0).toNat
    omega
theorem fixB_bin (zs : List Int) (k : Nat) : Bin (fixB zs k) := by
  induction k with
  | zero => exact (Bin.app (fun b hb => by cases hb) (bitsOf_bin _ _)).app (bitsOf_bin _ _)
  | succ k ih => exact ih.app (bitsOf_bin _ _)
theorem encF_len (zs : List Int) : (encF zs).length ≤ 600005 := by
  by_cases h : 100000 < zs.length
  · rw [encF_no h]; simp
  · rw [encF_yes (by omega), pk_len, fixAll, List.length_append]
    have h1 := fixB_len zs zs.length
    have h2 := cbits_len 256
    omega
end Go.Proofs.YtbddkkfakkedaaaGreatDoor
namespace Go.Proofs.YtbddkkfakkedaaaGreatDoor
open Go.RowKit
attribute [local go_sem ↓] Go.wp_at_zero Go.wp_at_succ
set_option linter.unusedVariables false

theorem BW.new (w : World) (t : TypeId) : BW (w.alloc (.cells #[.slice none 0 0, .int .i64 0] t)) w.heap.size [] :=
  ⟨⟨none, 0, by simp [go_sem]; rfl, World.ownsRow_nil _ _ _ _⟩, by simp [go_sem], by simp [go_sem], by simp [go_sem]⟩
/-- Codes below p stay. -/
theorem Codes.beneath {w w' : World} {B g n : Nat} {F : Nat → Nat × Nat} (h : Codes w g n F) (hb : Below B w w') (hg : g < B) : Codes w' g n F :=
  ⟨Nat.lt_of_lt_of_le h.lt hb.size, fun i hi => (hb.cell (p := ⟨g, i * 2, none⟩) hg).trans (h.at0 i hi), fun i hi => (hb.cell (p := ⟨g, i * 2 + 1, none⟩) hg).trans (h.at1 i hi), fun o => (hb.frozen (p := ⟨g, o, none⟩) hg).trans (h.free o)⟩
set_option maxRecDepth 100000 in
set_option maxHeartbeats 6400000 in
theorem iencF_yes (ao : Option Addr) (cap : Nat) (zs : List Int) (w : World) (hr : Row w ao zs) (hoct : Octets zs) (hl : zs.length ≤ 100000) :
    Calls Tryz.prog 22 #[.slice ao zs.length cap] w fun e w' => Go.Proofs.YtbddkkfakkedaaaGreatDoor.Code w w' (pk (fixAll zs)) e := by
  have HR := hideH hr
  have HOCT := hideH hoct
  have HF := hideH (fixedLits_any w)
  clear hr hoct
  go_enter Tryz.func22, Tryz.ntmps22
  go_wp2_with fail
  refine Calls.mono HF.out ?_
  rintro e w1 ⟨gF, cF, rfl, ho1, hb1⟩
  have HC := hideH (icodes_any (some ⟨gF, 0, none⟩) cF F288 w1 (Row64.owned ho1) (by rw [F288_len]; decide))
  have HB1 := hideH hb1
  clear ho1 hb1 HF
  go_wp2_with fail
  refine Calls.mono HC.out ?_
  rintro e w2 ⟨⟨aC, cC, rfl, hRC⟩, hb2⟩
  have hB2 := HB1.out.trans (hb2.mono HB1.out.size)
  have HB2 := hideH hB2
  obtain ⟨gC, rfl, hgB, hCd⟩ := hRC (by rw [F288_nC]; decide)
  have HCD := hideH hCd
  obtain ⟨nN, hnN⟩ : ∃ n, nC F288 = n := ⟨_, rfl⟩
  have hn288 : 288 ≤ nN := by rw [← hnN, F288_nC]; exact Nat.le_refl _
  rw [hnN] at HCD ⊢
  have hgw := hCd.lt
  clear hCd hRC hb2 hB2 HC hnN HB1
  have HP1 := hideH (bitput_any w2.heap.size 1 1 [] (w2.alloc (.cells #[.slice none 0 0, .int .i64 0] 104)) (BW.new w2 _) (fun b hb => by cases hb) (by decide) (by decide) (by simp))
  have HBA : Hid (Below w2.heap.size w2 (w2.alloc (.cells #[.slice none 0 0, .int .i64 0] 104))) := (Below.refl _ _).alloc (Nat.le_refl _) _
  obtain ⟨w3, hw3⟩ : ∃ w3, w2.alloc (.cells #[.slice none 0 0, .int .i64 0] 104) = w3 := ⟨_, rfl⟩
  rw [hw3] at HP1 HBA
  go_wp2_with fail
  refine Calls.mono HP1.out ?_
  rintro e w4 ⟨rfl, hW4, hb4⟩
  have hwp := HB2.out.size
  have HB3 := hideH (HB2.out.trans (HBA.out.mono hwp))
  have HCD3 := hideH (HCD.out.beneath HBA.out hgw)
  have HP2 := hideH (bitput_any w2.heap.size 1 2 ([] ++ bitsOf 1 1) w4 hW4 ((Bin.app (fun b hb => by cases hb) (bitsOf_bin 1 1))) (by decide) (by decide) (by simp [bitsOf_len]))
  have HB4 := hideH hb4
  clear hW4 hb4 HP1 HB2 HCD HBA hw3
  generalize w2.heap.size = p at *
  go_wp2_with fail
  refine Calls.mono HP2.out ?_
  rintro e w5 ⟨rfl, hW5, hb5⟩
  have HW5 := hideH hW5
  have HB5 := hideH (HB4.out.trans hb5)
  clear hW5 hb5 HP2 HB4
  go_wp2_with fail
  go_loopw [20] (fun i wr => ∃ k : Nat, k ≤ zs.length ∧ i = .int .i64 k ∧ Hid (BW wr p (fixB zs k)) ∧ Hid (Below p w3 wr)) (fun i _ => zs.length - (intOf i).toNat)
  case atStart => exact ⟨0, Nat.zero_le _, rfl, HW5, HB5⟩
  case round =>
    clear HW5 HB5
    obtain ⟨k, hk, rfl, HW, HB⟩ := hrel
    have HCr := hideH (HCD3.out.beneath HB.out hgw)
    have HBr := hideH (HB3.out.trans (HB.out.mono hwp))
    by_cases hlt : k < zs.length
    · obtain ⟨b, off, rfl, hcz⟩ := HR.out.at hlt
      have hbw : b < w.heap.size := World.block_lt_of_cell? w _ (hcz k hlt)
      have cz := (HBr.out.cell (p := ⟨b, off + k, none⟩) hbw).trans (hcz k hlt)
      have hz := HOCT.out.getD k
      obtain ⟨Zb, hZb⟩ : ∃ Z : Nat, zs.getD k 0 = Z := ⟨(zs.getD k 0).toNat, by omega⟩
      rw [hZb] at cz hz
      have hZ1 : Zb ≤ 255 := by omega
      have HFB : Hid (fixB zs (k + 1) = fixB zs k ++ bitsOf (code F288 Zb).2 (code F288 Zb).1) := by show _ = _; rw [fixB, hZb]; rfl
      have x0 := HCr.out.at0 Zb (by omega)
      have x1 := HCr.out.at1 Zb (by omega)
      have hX9 := code_len Zb
      have hY64 := code_bits Zb
      generalize (code F288 Zb).1 = X at *
      generalize (code F288 Zb).2 = Y at *
      have hfl := fixB_len zs k
      have HP := hideH (fun W (h : BW W p (fixB zs k)) => bitput_any p Y X (fixB zs k) W h (fixB_bin zs k) (by omega) hY64 (by omega))
      have hpw := HW.out.lt
      have hgr : gC < wr.heap.size := by omega
      have hZn : (Zb : Int) < (nN : Int) := by omega
      have hZ0 : (0 : Int) ≤ (Zb : Int) := by omega
      clear hcz hZb hz hfl hY64
      go_upto_region 10 with fail
      go_region_held3 (fun w' => w'.cell? ⟨gC, Zb * 2, none⟩ = some (.int .i64 X) ∧ w'.cell? ⟨gC, Zb * 2 + 1, none⟩ = some (.int .u64 Y))
        (first | (refine ⟨?_, ?_⟩ <;> with_reducible assumption) | (go_keep; done))
        ((go_at_call 49; refine Calls.mono (HP.out _ (HW.out.below ((Below.refl _ _).drew))) ?_; rintro e w7 ⟨rfl, hW7, hB7⟩; have q0 := (hB7.cell (p := ⟨gC, Zb * 2, none⟩) hgw).trans (show wr.drew.cell? ⟨gC, Zb * 2, none⟩ = some (.int .i64 X) from x0); have q1 := (hB7.cell (p := ⟨gC, Zb * 2 + 1, none⟩) hgw).trans (show wr.drew.cell? ⟨gC, Zb * 2 + 1, none⟩ = some (.int .u64 Y) from x1)))
      have HW7 : Hid (BW w7 p (fixB zs (k + 1))) := by show BW _ _ _; rw [HFB.out]; exact hW7
      have HB7 : Hid (Below p w3 w7) := (HB.out.drew).trans hB7
      clear hW7 hB7
      go_wp2_with fail
      exact ⟨⟨k + 1, by omega, by go_num, HW7, HB7⟩, by simp [intOf]; omega⟩
    · have e : k = zs.length := by omega
      subst e
      have x0 : wr.cell? ⟨gC, 512, none⟩ = some (.int .i64 ((code F288 256).1 : Nat)) := HCr.out.at0 256 (by omega)
      have x1 : wr.cell? ⟨gC, 513, none⟩ = some (.int .u64 ((code F288 256).2 : Nat)) := HCr.out.at1 256 (by omega)
      have HFB : Hid (fixAll zs = fixB zs zs.length ++ bitsOf (code F288 256).2 (code F288 256).1) := rfl
      have hX9 := code_len 256
      have hY64 := code_bits 256
      generalize (code F288 256).1 = X at *
      generalize (code F288 256).2 = Y at *
      have hfl := fixB_len zs zs.length
      have HP := hideH (fun W (h : BW W p (fixB zs zs.length)) => bitput_any p Y X (fixB zs zs.length) W h (fixB_bin zs zs.length) (by omega) hY64 (by omega))
      have hpw := HW.out.lt
      have hgr : gC < wr.heap.size := by omega
      have hZn : (256 : Int) < (nN : Int) := by omega
      clear hfl hY64
      go_upto_region 12 with fail
      go_region_held3 (fun w' => w'.cell? ⟨gC, 512, none⟩ = some (.int .i64 X) ∧ w'.cell? ⟨gC, 513, none⟩ = some (.int .u64 Y))
        (first | (refine ⟨?_, ?_⟩ <;> with_reducible assumption) | (go_keep; done))
        ((go_at_call 49; refine Calls.mono (HP.out _ (HW.out.below ((Below.refl _ _).drew))) ?_; rintro e w7 ⟨rfl, hW7, hB7⟩; have q0 := (hB7.cell (p := ⟨gC, 512, none⟩) hgw).trans (show wr.drew.cell? ⟨gC, 512, none⟩ = some (.int .i64 X) from x0); have q1 := (hB7.cell (p := ⟨gC, 513, none⟩) hgw).trans (show wr.drew.cell? ⟨gC, 513, none⟩ = some (.int .u64 Y) from x1)))
      have hW8 : BW w7 p (fixAll zs) := by rw [HFB.out]; exact hW7
      have HB7 := hideH (HBr.out.trans (((Below.refl p wr).drew.trans hB7).mono hwp))
      obtain ⟨⟨a8, c8, d0, ho8⟩, _⟩ := hW8
      have HO8 := hideH (ho8.mono (show w.heap.size ≤ p + 1 by omega))
      have hpw7 : p < w7.heap.size := World.block_lt_of_cell? w7 _ d0
      clear hW7 hB7 ho8 q0 q1
      go_wp2_with fail
      go_ret
      exact ⟨a8, c8, rfl, HO8.out, HB7.out⟩
theorem iencF_any (ao : Option Addr) (cap : Nat) (zs : List Int) (w : World) (hr : Row w ao zs) (hoct : Octets zs) (hl : zs.length ≤ 1048576) :
    Calls Tryz.prog 22 #[.slice ao zs.length cap] w fun e w' => Go.Proofs.YtbddkkfakkedaaaGreatDoor.Code w w' (encF zs) e := by
  by_cases h : 100000 < zs.length
  · rw [encF_no h]
    have hb : (100000 : Int) < (zs.length : Int) := by omega
    go_enter Tryz.func22, Tryz.ntmps22
    go_wp2_with fail
    go_ret
    exact ⟨none, 0, rfl, World.ownsRow_nil _ _ _ _, Below.refl _ _⟩
  · rw [encF_yes (by omega)]
    exact iencF_yes ao cap zs w hr hoct (by omega)
end Go.Proofs.YtbddkkfakkedaaaGreatDoor
namespace Go.Proofs.YtbddkkfakkedaaaGreatDoor
open Go.RowKit
attribute [local go_sem ↓] Go.wp_at_zero Go.wp_at_succ
set_option linter.unusedVariables false

/-- Bits as bytes. -/
def ib (L : List Nat) : List Int := L.map (fun b : Nat => (b : Int))
theorem ib_len (L : List Nat) : (ib L).length = L.length := by simp [ib]
theorem ib_app (L M : List Nat) : ib (L ++ M) = ib L ++ ib M := by simp [ib]
theorem ib_at (L : List Nat) (i : Nat) : (ib L).getD i 0 = ((L.getD i 0 : Nat) : Int) := by
  simp only [ib, List.getD, List.getElem?_map]
  cases L[i]? <;> rfl
set_option maxRecDepth 100000 in
set_option maxHeartbeats 6400000 in
theorem l5Put_any (B : Nat) (ao : Option Addr) (cap X n : Nat) (L : List Nat) (w : World) (ho : OwnsB 5 B w ao cap (ib L)) (hB : B ≤ w.heap.size) (hn : n ≤ 64) (hX : X < 2 ^ 64) (hl : L.length ≤ 2000000) :
    Calls Tryz.prog 66 #[.slice ao (ib L).length cap, .int .u64 X, .int .i64 n] w fun e w' => ∃ ao' cap', e = .returned (.slice ao' (ib (L ++ bitsOf X n)).length cap') ∧ OwnsB 5 B w' ao' cap' (ib (L ++ bitsOf X n)) ∧ Below B w w' := by
  obtain ⟨i0, hi, hz0, hz1, hz2⟩ := info_parts Tryz.info_u8
  have HO := hideH ho
  clear ho
  go_enter Tryz.func66, Tryz.ntmps66
  go_wp2_with fail
  go_loopw [0, 1, 7] (fun v x i wr => ∃ (k x' : Nat) (ao' : Option Addr) (cap' : Nat) (Z : List Int), k ≤ n ∧ i = .int .i64 k ∧ x = .int .u64 x' ∧ Hid (X / 2 ^ k = x') ∧ x' < 2 ^ 64 ∧ v = .slice ao' Z.length cap' ∧ Z.length ≤ 2000100 ∧ Hid (Z = ib (L ++ bitsOf X k)) ∧ Hid (OwnsB 5 B wr ao' cap' Z) ∧ Hid (Below B w wr)) (fun _ _ i _ => n - (intOf i).toNat)
  case atStart => exact ⟨0, X, ao, cap, ib L, Nat.zero_le _, rfl, rfl, Nat.div_one X, hX, rfl, by rw [ib_len]; omega, by show _ = _; rw [bitsOf_zero, List.append_nil], HO, Below.refl _ _⟩
  case round =>
    clear HO
    obtain ⟨k, x', ao', cap', Z, hk, rfl, rfl, HX, hx', rfl, hZl, HZ, HO, HB⟩ := hrel
    by_cases hlt : k < n
    · obtain ⟨b, hb⟩ : ∃ b, x' % 2 = b := ⟨_, rfl⟩
      have hbi : (x' : Int) % 2 = (b : Int) := by omega
      have hbt : (x' : Int).tmod 2 = (b : Int) := by rw [Int.tmod_eq_emod_of_nonneg (by omega)]; exact hbi
      have hb256 : (b : Int) % 256 = (b : Int) := by omega
      obtain ⟨y, hy⟩ : ∃ y, x' / 2 = y := ⟨_, rfl⟩
      have hyi : (x' : Int) / 2 = (y : Int) := by omega
      have hyt : (x' : Int).tdiv 2 = (y : Int) := by rw [Int.tdiv_eq_ediv_of_nonneg (by omega)]; exact hyi
      have hyw : IntKind.u64.wrap (y : Int) = (y : Int) := by rw [IntKind.wrap_u64]; omega
      have HX2 : Hid (X / 2 ^ (k + 1) = y) := by show _ = _; rw [Nat.pow_succ, ← Nat.div_div_eq_div_mul, HX.out]; exact hy
      have HZ2 : Hid (Z ++ [(b : Int)] = ib (L ++ bitsOf X (k + 1))) := by
        show _ = _
        rw [HZ.out, bitsOf_succ, HX.out, hb, ← List.append_assoc, ib_app (L ++ bitsOf X k)]
        rfl
      have hy64 : y < 2 ^ 64 := by omega
      have HOA := hideH (fun A t => HO.out.below ((Below.refl _ _).alloc (Nat.le_refl _) (.cells A t)))
      have hBw : B ≤ wr.heap.size := Nat.le_trans hB HB.out.size
      have HBA := hideH (fun A t => HB.out.trans (((Below.refl _ _).alloc (Nat.le_refl _) (.cells A t)).mono hBw))
      have HZL : Hid (Z.length = L.length + k) := by show _ = _; rw [HZ.out, ib_len, List.length_append, bitsOf_len]
      clear hb hy
      go_wp2_with (at_builtin; refine wpList_append_row _ rfl _ _ 22 rfl B 5 i0 (.int .u8 0) 1 Tryz.underlying22 hi hz0 hz1 hz2 rfl (.slice ao' Z.length cap') Z.length (Z.map (Value.int .u8)) rfl (HOA.out _ _) (some ⟨wr.heap.size, 0, none⟩) 1 [(b : Int)] rfl (row_oneB wr b 5) (fun e => by cases e) (by unfold maxLen; simp; omega) (by simp; omega) (by simp; omega) ?_)
      intro v' w2 hown hgrow hat
      have hown2 : w2.ownsRow B 5 1 v' (Z.length + 1) ((Z ++ [(b : Int)]).map (Value.int .u8)) := by
        rw [List.map_append]
        exact hown
      obtain ⟨ao2, cap2, rfl, ho2⟩ := OwnsB.of hown2
      rw [blk_own] at hgrow
      have HB2 := hideH ((HBA.out _ _).grown hgrow (by simp; omega) (fun q e => HO.out.base q e))
      have HO2 := hideH ho2
      have hl2 : (Z ++ [(b : Int)]).length ≤ 2000100 := by rw [List.length_append, HZL.out]; simp; omega
      generalize Z ++ [(b : Int)] = Z2 at *
      clear hown hown2 hgrow hat ho2 HOA HBA
      go_wp2_with fail
      exact ⟨⟨k + 1, y, ao2, cap2, Z2, by omega, by go_num, rfl, HX2, hy64, rfl, hl2, HZ2, HO2, HB2⟩, by simp [intOf]; omega⟩
    · have e : k = n := by omega
      subst e
      have hZe := HZ.out
      subst hZe
      go_wp2_with fail
      go_ret
      exact ⟨ao', cap', rfl, HO.out, HB.out⟩
end Go.Proofs.YtbddkkfakkedaaaGreatDoor
