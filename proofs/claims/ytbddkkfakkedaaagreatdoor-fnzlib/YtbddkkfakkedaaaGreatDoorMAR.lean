import Derived.Laws.CopyOwn
import Derived.Lib.AppendZeros
import Derived.Test.YtbddkkfakkedaaaGreatDoorMAQ
namespace Go.Proofs.YtbddkkfakkedaaaGreatDoor
open Go.RowKit
attribute [local go_sem ↓] Go.wp_at_zero Go.wp_at_succ
set_option linter.unusedVariables false

/-- The block g holds just these numbers. -/
def Blk (w : World) (g : Nat) (zs : List Int) : Prop := w.heap[g]? = some (.cells (zs.map (Value.int .i64)).toArray 2 (0, 0))
theorem Blk.of {w : World} {B g n : Nat} {zs : List Int} (h : w.ownsRow B 2 1 (.slice (some ⟨g, 0, none⟩) n n) n (zs.map (Value.int .i64))) : Blk w g zs ∧ B ≤ g := by
  rcases h.2 with ⟨h', _⟩ | ⟨g', cap', cur, h', hb, hg, _, _, hs, ht⟩
  · simp at h'
  · simp only [Value.slice.injEq, Option.some.injEq, Addr.mk.injEq, and_true, true_and] at h'
    obtain ⟨rfl, rfl⟩ := h'
    refine ⟨?_, hb⟩
    unfold Blk
    rw [hg, ← ht, List.take_of_length_le (by rw [Array.length_toList]; omega)]
theorem Blk.owns {w : World} {B g : Nat} {zs : List Int} (h : Blk w g zs) (hB : B ≤ g) (hm : zs.length ≤ maxLen) : w.ownsRow B 2 1 (.slice (some ⟨g, 0, none⟩) zs.length zs.length) zs.length (zs.map (Value.int .i64)) := by
  refine ⟨by simp, .inr ⟨g, zs.length, _, rfl, hB, h, Nat.le_refl _, hm, by simp, ?_⟩⟩
  rw [List.take_of_length_le (by simp)]
theorem Blk.row {w : World} {g : Nat} {zs : List Int} (h : Blk w g zs) : Row64 w (some ⟨g, 0, none⟩) zs := by
  by_cases hz : zs.length ≤ maxLen
  · exact Row64.owned (h.owns (B := 0) (Nat.zero_le _) hz)
  · refine Row64.of fun i hi => ?_
    unfold Blk at h
    simp [World.cell?, h, hi, List.getD]
theorem Tryz.size_i64 : (Tryz.prog.info? 2).map (·.size) = some 1 := by kernel_rfl
/-- copy into a block, from numbers that lie anywhere. -/
theorem copy_blk (w : World) (g : Nat) (zs ys : List Int) (m dLen dCap sLen sCap : Nat) (a : Addr) (hB : Blk w g zs) (hs : Row64 w (some a) ys) (hn : ys.length = Nat.min sLen dLen) (hfit : m + ys.length ≤ zs.length) :
    ∃ w2, Sem.run Tryz.prog (Builtin.copy_ #[67, 67] 3 #[.slice (some ⟨g, m, none⟩) dLen dCap, .slice (some a) sLen sCap]) w = .ok (goInt ys.length) w2 ∧ Blk w2 g (zs.take m ++ ys ++ zs.drop (m + ys.length)) ∧ ∀ B w0, Below B w0 w → B ≤ g → Below B w0 w2 := by
  have hrun := run_copy_row (P := Tryz.prog) w 67 67 3 2 g m dLen dCap a sLen sCap (zs.map (Value.int .i64)).toArray 2 (ys.map (Value.int .i64)) Tryz.underlying67 Tryz.size_i64 hB (by rw [List.length_map]; exact hn) (by
    intro j u hu
    have hj : j < ys.length := by
      rcases Nat.lt_or_ge j ys.length with h | h
      · exact h
      · rw [List.getElem?_eq_none (by simpa using h)] at hu; cases hu
    obtain ⟨b, o, e, hc⟩ := hs j hj
    simp only [Option.some.injEq] at e
    subst e
    rw [Addr.add_lit, hc]
    simp [hj] at hu
    simp [List.getD, hj, hu]) (by simpa using hfit) (by intro u hu; simp at hu; obtain ⟨x, _, rfl⟩ := hu; rfl)
  rw [List.length_map] at hrun
  refine ⟨_, hrun, ?_, fun B w0 hb hg => below_setRow hb hg _⟩
  have := setRow_heap w g _ (List.take m (zs.map (Value.int .i64)).toArray.toList ++ ys.map (Value.int .i64) ++ List.drop (m + ys.length) (zs.map (Value.int .i64)).toArray.toList).toArray _ _ hB
  unfold Blk
  rw [this]
  simp
theorem and_mask (n : Nat) (h : n ≤ 1000000) : bits .and .u64 (n : Int) 4294967295 = (n : Int) := by
  have h1 := u64_and n 4294967295 (by omega) (by omega)
  rw [show ((4294967295 : Nat) : Int) = 4294967295 from rfl] at h1
  rw [h1, show (4294967295 : Nat) = 2 ^ 32 - 1 from rfl, Nat.and_two_pow_sub_one_eq_mod, Nat.mod_eq_of_lt (by omega)]
theorem mul64_one (n : Nat) (w : World) (h : n ≤ 1000000) : Calls Tryz.prog 150 #[.int .u64 1, .int .u64 n] w fun e w' => e = .returned (.tuple #[.int .u64 0, .int .u64 n]) ∧ w' = w := by
  have h1 := and_mask n h
  have h2 : (n : Int) / 4294967296 = 0 := by omega
  have h3 : bits .and .u64 (1 : Int) 4294967295 = 1 := by decide
  have h4 : bits .and .u64 (0 : Int) 4294967295 = 0 := by decide
  go_enter Tryz.func150, Tryz.ntmps150
  go_wp2_with fail
  exact bodyPost_ret (v := .tuple #[.int .u64 0, .int .u64 n]) (by simp [results, Tryz.results150, go_sem]) rfl ⟨rfl, rfl⟩
theorem mul_one (n : Nat) (w : World) (h : n ≤ 1000000) : Calls Tryz.prog 122 #[.int .u64 1, .int .u64 n] w fun e w' => e = .returned (.tuple #[.int .u64 0, .int .u64 n]) ∧ w' = w := by
  have HC := hideH (mul64_one n w h)
  go_enter Tryz.func122, Tryz.ntmps122
  go_wp2_with fail
  refine Calls.mono HC.out ?_
  rintro e w' ⟨rfl, rfl⟩
  go_wp2_with fail
  exact bodyPost_ret (v := .tuple #[.int .u64 0, .int .u64 n]) (by simp [results, Tryz.results122, go_sem]) rfl ⟨rfl, rfl⟩
/-- What Repeat has made after m. -/
def rep (v : Int) (n m : Nat) : List Int := List.replicate m v ++ List.replicate (n - m) 0
theorem rep_len (v : Int) (n m : Nat) (h : m ≤ n) : (rep v n m).length = n := by simp [rep]; omega
theorem rep_zero (v : Int) (n : Nat) : rep v n 0 = List.replicate n 0 := by simp [rep]
theorem rep_all (v : Int) (n : Nat) : rep v n n = List.replicate n v := by simp [rep]
theorem rep_more (v : Int) (n m k : Nat) (h : m + k ≤ n) : (rep v n m).take m ++ List.replicate k v ++ (rep v n m).drop (m + k) = rep v n (m + k) := by
  unfold rep
  rw [List.take_left' (by simp), List.drop_append, List.drop_eq_nil_of_le (by simp), List.nil_append, List.drop_replicate, List.length_replicate, List.replicate_append_replicate]
  congr 2
  omega
theorem rep_head (v : Int) (n m k : Nat) (h : k ≤ m) : (rep v n m).take k = List.replicate k v := by
  unfold rep
  rw [List.take_append_of_le_length (by simpa using h), List.take_replicate, Nat.min_eq_left h]
theorem Row64.taken {w : World} {ao : Option Addr} {zs : List Int} (h : Row64 w ao zs) (k : Nat) : Row64 w ao (zs.take k) := by
  intro i hi
  rw [List.length_take] at hi
  obtain ⟨b, o, e, hc⟩ := h i (by omega)
  refine ⟨b, o, e, ?_⟩
  rw [hc]
  simp [List.getD, (by omega : i < k)]
set_option maxRecDepth 100000 in
set_option maxHeartbeats 6400000 in
theorem repeat_one (b off c n : Nat) (v : Int) (w : World) (hr : Row64 w (some ⟨b, off, none⟩) [v]) (h0 : 0 < n) (hn : n ≤ 1000) :
    Calls Tryz.prog 81 #[.slice (some ⟨b, off, none⟩) 1 c, .int .i64 n] w fun e w' => e = .returned (.slice (some ⟨w.heap.size, 0, none⟩) n n) ∧ Blk w' w.heap.size (List.replicate n v) ∧ Below w.heap.size w w' := by
  obtain ⟨i0, hi, hz0, hz1, hz2⟩ := info_parts Tryz.info_i64
  have HM := hideH (mul_one n w (by omega))
  have wn : IntKind.u64.wrap (n : Int) = (n : Int) := by rw [IntKind.wrap_u64]; omega
  have HR := hideH hr
  clear hr
  go_enter Tryz.func81, Tryz.ntmps81
  go_wp2_with fail
  refine Calls.mono HM.out ?_
  rintro e w' ⟨rfl, rfl⟩
  go_wp2_with (at_make; refine wpList_make_full _ rfl _ _ 67 rfl w'.heap.size 2 i0 (.int .i64 0) 1 Tryz.underlying67 hi hz0 hz1 _ _ _ _ n rfl rfl rfl rfl (by rw [hz2]; omega) (by unfold maxLen; omega) (Nat.le_refl _) ?_)
  intro w1 hown hgrow
  rw [toList_madeCells_one, ← List.map_replicate, ← rep_zero v n] at hown
  obtain ⟨hB1, _⟩ := Blk.of hown
  have hb1 : Below w'.heap.size w' w1 := (Below.refl _ _).grown hgrow (Nat.le_refl _) (by simp)
  obtain ⟨w2, hrun, hB2, hb2⟩ := copy_blk w1 w'.heap.size (rep v n 0) (List.replicate 1 v) 0 n n 1 c ⟨b, off, none⟩ hB1 (HR.out.below hb1) (by rw [List.length_replicate]; exact (Nat.min_eq_left h0).symm) (by rw [rep_len _ _ _ (by omega)]; simp; omega)
  rw [List.length_replicate, rep_more v n 0 1 (by omega)] at hB2
  have HBk2 := hideH hB2
  have HB2 := hideH (hb2 _ _ hb1 (Nat.le_refl _))
  rw [List.length_replicate] at hrun
  clear hown hgrow hB1 hb1 hB2 hb2
  go_wp2_with fail
  clear hrun
  go_loopw [8] (fun i wr => ∃ m : Nat, 0 < m ∧ m ≤ n ∧ i = .int .i64 m ∧ Hid (Blk wr w'.heap.size (rep v n m)) ∧ Hid (Below w'.heap.size w' wr)) (fun i _ => n - (intOf i).toNat)
  case atStart => exact ⟨1, by omega, by omega, rfl, HBk2, HB2⟩
  case round =>
    clear HBk2 HB2
    obtain ⟨m, hm0, hmn, rfl, HBk, HB⟩ := hrel
    by_cases hlt : m < n
    · obtain ⟨k, hk⟩ : ∃ k, Nat.min m (n - m) = k := ⟨_, rfl⟩
      have hk1 : k ≤ m := by rw [← hk]; exact Nat.min_le_left _ _
      have hk2 : k ≤ n - m := by rw [← hk]; exact Nat.min_le_right _ _
      have hk3 : 0 < k := by rw [← hk]; exact Nat.lt_min.2 ⟨hm0, by omega⟩
      obtain ⟨w3, hrun, hB3, hb3⟩ := copy_blk wr.drew w'.heap.size (rep v n m) (List.replicate k v) m (n - m) (n - m) m n ⟨w'.heap.size, 0, none⟩ HBk.out (by rw [← rep_head v n m k hk1]; exact (Blk.row (w := wr.drew) HBk.out).taken k) (by simp [hk]) (by rw [rep_len _ _ _ hmn]; simp; omega)
      rw [List.length_replicate, rep_more v n m k (by omega)] at hB3
      rw [List.length_replicate] at hrun
      have HBk3 := hideH hB3
      have HB3 := hideH (hb3 _ _ (HB.out.drew) (Nat.le_refl _))
      clear hB3 hb3 hk
      have hne : ¬ n = m := by omega
      go_upto_region 9 with fail
      go_region
      go_wp2_with fail
      exact ⟨⟨m + k, by omega, by omega, by go_num, HBk3, HB3⟩, by simp [intOf]; omega⟩
    · have e : m = n := by omega
      subst e
      have HF : Hid (Blk wr w'.heap.size (List.replicate m v)) := by rw [← rep_all]; exact HBk.out
      go_wp2_with fail
      go_ret
      exact ⟨rfl, HF.out, HB.out⟩
end Go.Proofs.YtbddkkfakkedaaaGreatDoor
namespace Go.Proofs.YtbddkkfakkedaaaGreatDoor
open Go.RowKit
attribute [local go_sem ↓] Go.wp_at_zero Go.wp_at_succ
set_option linter.unusedVariables false

theorem zeroCells_one (n : Nat) (z : Value) (h : z.cells.size = 1) : (Builtin.zeroCells z.cells n).size = n := by
  simp [Builtin.zeroCells, h]
theorem Tryz.under_int : Tryz.prog.underlying 3 = some (.int .i64) := by kernel_rfl
set_option maxRecDepth 100000 in
set_option maxHeartbeats 3200000 in
theorem grow_nil (n : Nat) (w : World) (h0 : 0 < n) (hn : n ≤ 100000) :
    Calls Tryz.prog 121 #[.slice none 0 0, .int .i64 n] w fun e w' => ∃ g cap, e = .returned (.slice (some ⟨g, 0, none⟩) 0 cap) ∧ w'.ownsRow w.heap.size 2 1 (.slice (some ⟨g, 0, none⟩) 0 cap) 0 [] ∧ Below w.heap.size w w' := by
  obtain ⟨i0, hi, hz0, hz1, hz2⟩ := info_parts Tryz.info_i64
  have hrun := Lib.run_append_nil_zeros (P := Tryz.prog) w 67 3 67 2 i0 (.int .i64 0) .i64 .i64 Tryz.underlying67 Tryz.under_int hi hz0 n h0 (by rw [hz1]; decide) (by omega) (by rw [hz2]; omega)
  obtain ⟨cap, hcap⟩ : ∃ cap, grownCap w n 0 2 = cap := ⟨_, rfl⟩
  have hc1 : n ≤ cap := by rw [← hcap]; exact grownCap_ge _ _ _ _
  have hc2 : cap ≤ maxLen := by rw [← hcap]; exact grownCap_le_maxLen _ _ _ _ (by unfold maxLen; omega)
  rw [hcap] at hrun
  obtain ⟨cur, hcur⟩ : ∃ cur, Builtin.zeroCells (Value.int .i64 0).cells n ++ Builtin.zeroCells (Value.int .i64 0).cells (cap - n) = cur := ⟨_, rfl⟩
  have hcs : cur.size = cap := by rw [← hcur, Array.size_append, zeroCells_one _ _ rfl, zeroCells_one _ _ rfl]; omega
  rw [hcur] at hrun
  have HB : Hid (Below w.heap.size w (w.drew.alloc (.cells cur 2))) := ((Below.refl _ _).drew).alloc (Nat.le_refl _) _
  have HO : Hid ((w.drew.alloc (.cells cur 2)).ownsRow w.heap.size 2 1 (.slice (some ⟨w.heap.size, 0, none⟩) 0 cap) 0 []) := by
    refine ⟨rfl, .inr ⟨w.heap.size, cap, cur, rfl, Nat.le_refl _, ?_, Nat.zero_le _, hc2, by omega, by simp⟩⟩
    show (w.heap.push _)[w.heap.size]? = _
    simp
  clear hcap hcur hcs
  unfold maxLen at hc2
  go_enter Tryz.func121, Tryz.ntmps121
  go_wp2_with (at_builtin; refine Lib.wpList_append_run _ rfl _ _ _ _ rfl _ _ rfl rfl _ _ hrun ?_)
  go_ret
  exact ⟨_, _, rfl, HO.out, HB.out⟩
/-- One behind the other. -/
def cat (A : Nat → List Int) : Nat → List Int
  | 0 => []
  | i + 1 => cat A i ++ A i
theorem cat_mono (A : Nat → List Int) (i j : Nat) (h : i ≤ j) : (cat A i).length ≤ (cat A j).length := by
  induction j with
  | zero => rw [Nat.le_zero.1 h]; exact Nat.le_refl _
  | succ j ih =>
    by_cases e : i = j + 1
    · subst e; exact Nat.le_refl _
    · have := ih (by omega)
      rw [cat, List.length_append]
      omega
theorem Row64.anew {w : World} {ad : Addr} {zs : List Int} (h : Row64 w (some ad) zs) : ∀ j u, (zs.map (Value.int .i64))[j]? = some u → w.cell? (ad.add j) = some u := by
  intro j u hu
  have hj : j < zs.length := by
    rcases Nat.lt_or_ge j zs.length with h | h
    · exact h
    · rw [List.getElem?_eq_none (by simpa using h)] at hu; cases hu
  obtain ⟨b, o, e, hc⟩ := h j hj
  simp only [Option.some.injEq] at e
  subst e
  rw [Addr.add_lit, hc]
  simp [hj] at hu
  simp [List.getD, hj, hu]
theorem ints_one (zs : List Int) : ∀ u ∈ zs.map (Value.int .i64), u.oneCell' = true := by
  intro u hu; simp at hu; obtain ⟨x, _, rfl⟩ := hu; rfl
set_option maxRecDepth 100000 in
set_option maxHeartbeats 6400000 in
theorem concat_any (q k cq : Nat) (G C : Nat → Nat) (A : Nat → List Int) (w : World) (hk : k ≤ 100) (hc : ∀ i, i < k → w.cell? ⟨q, i, none⟩ = some (.slice (some ⟨G i, 0, none⟩) (A i).length (C i))) (hr : ∀ i, i < k → Row64 w (some ⟨G i, 0, none⟩) (A i)) (hp : ∀ i, i < k → 0 < (A i).length) (h0 : 0 < (cat A k).length) (hn : (cat A k).length ≤ 10000) :
    Calls Tryz.prog 80 #[.slice (some ⟨q, 0, none⟩) k cq] w fun e w' => ∃ g cap, e = .returned (.slice (some ⟨g, 0, none⟩) (cat A k).length cap) ∧ w'.ownsRow w.heap.size 2 1 (.slice (some ⟨g, 0, none⟩) (cat A k).length cap) (cat A k).length ((cat A k).map (Value.int .i64)) ∧ Below w.heap.size w w' := by
  obtain ⟨i0, hi, hz0, hz1, hz2⟩ := info_parts Tryz.info_i64
  have HC := hideH hc
  have HR := hideH hr
  have HP := hideH hp
  clear hp
  obtain ⟨N, hN⟩ : ∃ N, (cat A k).length = N := ⟨_, rfl⟩
  have HN := hideH hN
  have HG := hideH (grow_nil N w (by omega) (by omega))
  have HMO := hideH (fun i => cat_mono A i k)
  rw [hN] at h0 hn
  rw [hN]
  clear hc hr hN
  go_enter Tryz.func80, Tryz.ntmps80
  go_wp2_with fail
  go_loop [3, 11] (fun s i => ∃ j : Nat, j ≤ k ∧ i = .int .i64 j ∧ s = .int .i64 ((cat A j).length : Nat)) (fun _ i => k - (intOf i).toNat)
  case atStart => exact ⟨0, Nat.zero_le _, rfl, rfl⟩
  case round =>
    obtain ⟨j, hj, rfl, rfl⟩ := hrel
    by_cases hlt : j < k
    · have c := HC.out j hlt
      have hS : (cat A (j + 1)).length = (cat A j).length + (A j).length := by rw [cat, List.length_append]
      have hb : (cat A (j + 1)).length ≤ 10000 := by have := HMO.out (j + 1) hlt; rw [HN.out] at this; omega
      have HS := hideH hS
      have hb1 : (cat A j).length + (A j).length ≤ 10000 := by omega
      clear hS hb
      go_wp2_with fail
      exact ⟨⟨j + 1, by omega, by go_num, by rw [HS.out]; go_num⟩, by simp [intOf]; omega⟩
    · have e : j = k := by omega
      subst e
      rw [HN.out]
      go_wp2_with fail
      refine Calls.mono HG.out ?_
      rintro e w1 ⟨g, cap, rfl, ho, hb⟩
      have HO := hideH ho
      have HB := hideH hb
      clear ho hb HG
      go_wp2_with fail
      go_loopw [6, 27] (fun v i wr => ∃ (j' g cap : Nat), j' ≤ j ∧ i = .int .i64 j' ∧ v = .slice (some ⟨g, 0, none⟩) (cat A j').length cap ∧ Hid (wr.ownsRow w.heap.size 2 1 (.slice (some ⟨g, 0, none⟩) (cat A j').length cap) (cat A j').length ((cat A j').map (Value.int .i64))) ∧ Hid (Below w.heap.size w wr)) (fun _ i _ => j - (intOf i).toNat)
      case atStart => exact ⟨0, g, cap, Nat.zero_le _, rfl, rfl, HO, HB⟩
      case round =>
        clear HO HB
        obtain ⟨i, g, cap, hij, rfl, rfl, HO, HB⟩ := hrel
        by_cases hlt2 : i < j
        · have hc := HC.out i hlt2
          have hq := World.block_lt_of_cell? w _ hc
          have c := (HB.out.cell (p := ⟨q, i, none⟩) hq).trans hc
          have HRi := hideH ((HR.out i hlt2).below HB.out)
          have hb1 : (cat A i).length + (A i).length ≤ 10000 := by
            have := HMO.out (i + 1) hlt2
            rw [HN.out, cat, List.length_append] at this
            omega
          have hsz := HB.out.size
          have HCA : Hid (cat A (i + 1) = cat A i ++ A i) := rfl
          have hgB : w.heap.size ≤ g := (HO.out.lt g rfl).1
          clear hc hq
          go_wp2_with (at_builtin; refine wpList_append_cells _ rfl _ _ 67 rfl w.heap.size 2 i0 (.int .i64 0) 1 8 Tryz.underlying67 hi hz0 hz1 hz2 rfl (by decide) (.slice (some ⟨g, 0, none⟩) (cat A i).length cap) (cat A i).length ((cat A i).map (Value.int .i64)) rfl HO.out ⟨G i, 0, none⟩ (A i).length (C i) ((A i).map (Value.int .i64)) rfl (by simp) HRi.out.anew (ints_one _) (by unfold maxLen; omega) (by omega) hsz ?_)
          intro v4 w4 hown hgrow
          rw [← List.map_append, ← HCA.out, show (cat A i).length + (A i).length = (cat A (i + 1)).length from by rw [HCA.out, List.length_append]] at hown
          have hb4 := HB.out.grown hgrow hsz (by intro t e; simp [Value.ownBlock] at e; omega)
          obtain ⟨g4, c4, rfl⟩ : ∃ g4 c4, v4 = .slice (some ⟨g4, 0, none⟩) (cat A (i + 1)).length c4 := by
            rcases hown.2 with ⟨_, h0⟩ | ⟨g', cap', cur, h', _⟩
            · have := HP.out i hlt2
              rw [HCA.out, List.length_append] at h0
              omega
            · exact ⟨g', cap', h'⟩
          have HO4 := hideH hown
          have HB4 := hideH hb4
          clear hown hgrow hb4
          go_wp2_with fail
          exact ⟨⟨i + 1, g4, c4, by omega, by go_num, rfl, HO4, HB4⟩, by simp [intOf]; omega⟩
        · have e : i = j := by omega
          subst e
          rw [HN.out] at HO ⊢
          go_wp2_with fail
          go_ret
          exact ⟨g, cap, rfl, HO.out, HB.out⟩
theorem row64_lit (w : World) (x : Int) (t : TypeId) : Row64 (w.alloc (.cells #[.int .i64 x] t)) (some ⟨w.heap.size, 0, none⟩) [x] := by
  refine Row64.of fun i hi => ?_
  simp at hi
  subst hi
  simp [go_sem]
/-- The fixed literal lengths. -/
def F288 : List Int := ((([] ++ List.replicate 144 8) ++ List.replicate 112 9) ++ List.replicate 24 7) ++ List.replicate 8 8
theorem F288_len : F288.length = 288 := by unfold F288; simp only [List.length_append, List.length_replicate, List.length_nil]
theorem repeat_lit (W : World) (x : Int) (n : Nat) (h0 : 0 < n) (hn : n ≤ 1000) :
    Calls Tryz.prog 81 #[.slice (some ⟨W.heap.size, 0, none⟩) 1 1, .int .i64 n] (W.alloc (.cells #[.int .i64 x] 2)) fun e w' => ∃ (g : Nat) (B : List Int), e = .returned (.slice (some ⟨g, 0, none⟩) B.length B.length) ∧ Hid (B = List.replicate n x) ∧ Blk w' g B ∧ Below W.heap.size W w' := by
  refine Calls.mono (repeat_one W.heap.size 0 1 n x (W.alloc (.cells #[.int .i64 x] 2)) (row64_lit W x 2) h0 hn) ?_
  rintro e w' ⟨rfl, hB, hb⟩
  exact ⟨_, List.replicate n x, by rw [List.length_replicate], rfl, hB, ((Below.refl _ _).alloc (Nat.le_refl _) _).trans (hb.mono (by simp))⟩
theorem Blk.below {w w' : World} {g : Nat} {zs : List Int} (h : Blk w g zs) (hb : Below w.heap.size w w') : Blk w' g zs := by
  have hl : g < w.heap.size := (Array.getElem?_eq_some_iff.1 h).1
  unfold Blk
  rw [hb.block g hl]
  exact h
def of4 {α : Type} (a b c d : α) : Nat → α
  | 0 => a
  | 1 => b
  | 2 => c
  | _ => d
set_option maxRecDepth 100000 in
set_option maxHeartbeats 6400000 in
theorem fixedLits_any (w : World) : Calls Tryz.prog 48 #[] w fun e w' => ∃ g cap, e = .returned (.slice (some ⟨g, 0, none⟩) F288.length cap) ∧ w'.ownsRow w.heap.size 2 1 (.slice (some ⟨g, 0, none⟩) F288.length cap) F288.length (F288.map (Value.int .i64)) ∧ Below w.heap.size w w' := by
  have H1 := hideH (repeat_lit w 8 144 (by decide) (by decide))
  go_enter Tryz.func48, Tryz.ntmps48
  go_wp2_with fail
  refine Calls.mono H1.out ?_
  rintro e w1 ⟨g0, B0, rfl, E0, b0, k0⟩
  have H2 := hideH (repeat_lit w1 9 112 (by decide) (by decide))
  have K1 := hideH k0
  have X1 := hideH b0
  clear b0 k0 H1
  go_wp2_with fail
  refine Calls.mono H2.out ?_
  rintro e w2 ⟨g1, B1, rfl, E1, b1, k1⟩
  have H3 := hideH (repeat_lit w2 7 24 (by decide) (by decide))
  have K2 := hideH (K1.out.trans (k1.mono K1.out.size))
  have X2 := hideH (X1.out.below k1)
  have Y2 := hideH b1
  clear b1 k1 H2 K1 X1
  go_wp2_with fail
  refine Calls.mono H3.out ?_
  rintro e w3 ⟨g2, B2, rfl, E2, b2, k2⟩
  have H4 := hideH (repeat_lit w3 8 8 (by decide) (by decide))
  have K3 := hideH (K2.out.trans (k2.mono K2.out.size))
  have X3 := hideH (X2.out.below k2)
  have Y3 := hideH (Y2.out.below k2)
  have Z3 := hideH b2
  clear b2 k2 H3 K2 X2 Y2
  go_wp2_with fail
  refine Calls.mono H4.out ?_
  rintro e w4 ⟨g3, B3, rfl, E3, b3, k3⟩
  have K4 := hideH (K3.out.trans (k3.mono K3.out.size))
  have X4 := hideH (X3.out.below k3)
  have Y4 := hideH (Y3.out.below k3)
  have Z4 := hideH (Z3.out.below k3)
  have U4 := hideH b3
  clear b3 k3 H4 K3 X3 Y3 Z3
  obtain ⟨A, hA⟩ : ∃ A, of4 B0 B1 B2 B3 = A := ⟨_, rfl⟩
  obtain ⟨w5, hw5⟩ : ∃ w5, w4.alloc (.cells #[.slice (some ⟨g0, 0, none⟩) B0.length B0.length, .slice (some ⟨g1, 0, none⟩) B1.length B1.length, .slice (some ⟨g2, 0, none⟩) B2.length B2.length, .slice (some ⟨g3, 0, none⟩) B3.length B3.length] 67) = w5 := ⟨_, rfl⟩
  have K5 : Below w4.heap.size w4 w5 := by rw [← hw5]; exact (Below.refl _ _).alloc (Nat.le_refl _) _
  have hcat : cat A 4 = F288 := by
    rw [← hA]
    show ((([] ++ B0) ++ B1) ++ B2) ++ B3 = _
    rw [E0.out, E1.out, E2.out, E3.out]
    rfl
  have HC := concat_any w4.heap.size 4 4 (of4 g0 g1 g2 g3) (of4 B0.length B1.length B2.length B3.length) A w5 (by decide)
    (fun i hi => by
      rw [← hw5, ← hA]
      rcases (by omega : i = 0 ∨ i = 1 ∨ i = 2 ∨ i = 3) with rfl | rfl | rfl | rfl <;> simp [go_sem, of4])
    (fun i hi => by
      rw [← hA]
      rcases (by omega : i = 0 ∨ i = 1 ∨ i = 2 ∨ i = 3) with rfl | rfl | rfl | rfl
      · exact (X4.out.below K5).row
      · exact (Y4.out.below K5).row
      · exact (Z4.out.below K5).row
      · exact (U4.out.below K5).row)
    (fun i hi => by
      rw [← hA]
      rcases (by omega : i = 0 ∨ i = 1 ∨ i = 2 ∨ i = 3) with rfl | rfl | rfl | rfl
      · show 0 < B0.length; rw [E0.out, List.length_replicate]; decide
      · show 0 < B1.length; rw [E1.out, List.length_replicate]; decide
      · show 0 < B2.length; rw [E2.out, List.length_replicate]; decide
      · show 0 < B3.length; rw [E3.out, List.length_replicate]; decide)
    (by rw [hcat, F288_len]; decide) (by rw [hcat, F288_len]; decide)
  rw [hcat] at HC
  have HCC := hideH HC
  have HB5 := hideH (K4.out.trans (K5.mono K4.out.size))
  clear HC K5 hcat X4 Y4 Z4 U4 E0 E1 E2 E3 K4 hA
  go_wp2_with fail
  refine Calls.mono HCC.out ?_
  rintro e w6 ⟨g, cap, rfl, ho, hb⟩
  have HO := hideH ho
  have HB6 := hideH (HB5.out.trans (hb.mono HB5.out.size))
  have hs5 := HB5.out.size
  clear ho hb HCC
  go_wp2_with fail
  go_ret
  refine ⟨g, cap, rfl, ⟨HO.out.1, ?_⟩, HB6.out⟩
  rcases HO.out.2 with h2 | ⟨g', c', cur, h3, h4, h5⟩
  · exact .inl h2
  · exact .inr ⟨g', c', cur, h3, Nat.le_trans hs5 h4, h5⟩
end Go.Proofs.YtbddkkfakkedaaaGreatDoor
