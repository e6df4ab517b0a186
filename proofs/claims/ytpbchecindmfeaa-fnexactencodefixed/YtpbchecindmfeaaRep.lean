import Derived.Test.YtpbchecindmfeaaHCS
import Derived.Laws.CopyOwn
namespace Go.Proofs.Ytpbchecindmfeaa
open Go.RowKit
attribute [local go_sem ↓] Go.wp_at_zero Go.wp_at_succ
set_option linter.unusedVariables false

/-- The block g holds just these numbers. -/
def Blk (w : World) (g : Nat) (zs : List Int) : Prop := w.heap[g]? = some (.cells (zs.map (Value.int .i64)).toArray 2 (0, 0))
theorem Blk.of {w : World} {B g n : Nat} {zs : List Int} (h : w.ownsRow B 2 1 (.slice (some ⟨g, 0, none⟩) n n) n (zs.map (Value.int .i64))) : Blk w g zs ∧ B ≤ g := by
  rcases h.2 with ⟨h', _⟩ | ⟨g', cap', cur, h', hb, hg, _, _, hs, ht⟩
  · simp at h'
  · simp only [Value.slice.injEq, Option.some.injEq, Addr.mk.injEq, and_true, true_and] at h'
    obtain ⟨rfl, rfl⟩ := h'
    refine ⟨?_, hb⟩
    unfold Blk
    rw [hg, ← ht, List.take_of_length_le (by rw [Array.length_toList]; omega)]
theorem Blk.owns {w : World} {B g : Nat} {zs : List Int} (h : Blk w g zs) (hB : B ≤ g) (hm : zs.length ≤ maxLen) : w.ownsRow B 2 1 (.slice (some ⟨g, 0, none⟩) zs.length zs.length) zs.length (zs.map (Value.int .i64)) := by
  refine ⟨by simp, .inr ⟨g, zs.length, _, rfl, hB, h, Nat.le_refl _, hm, by simp, ?_⟩⟩
  rw [List.take_of_length_le (by simp)]
theorem Blk.row {w : World} {g : Nat} {zs : List Int} (h : Blk w g zs) : Row64 w (some ⟨g, 0, none⟩) zs := by
  by_cases hz : zs.length ≤ maxLen
  · exact Row64.owned (h.owns (B := 0) (Nat.zero_le _) hz)
  · refine Row64.of fun i hi => ?_
    unfold Blk at h
    simp [World.cell?, h, hi, List.getD]
theorem Try.size_i64 : (Try.prog.info? 2).map (·.size) = some 1 := by kernel_rfl
/-- copy into a block, from numbers that lie anywhere. -/
theorem copy_blk (w : World) (g : Nat) (zs ys : List Int) (m dLen dCap sLen sCap : Nat) (a : Addr) (hB : Blk w g zs) (hs : Row64 w (some a) ys) (hn : ys.length = Nat.min sLen dLen) (hfit : m + ys.length ≤ zs.length) :
    ∃ w2, Sem.run Try.prog (Builtin.copy_ #[30, 30] 3 #[.slice (some ⟨g, m, none⟩) dLen dCap, .slice (some a) sLen sCap]) w = .ok (goInt ys.length) w2 ∧ Blk w2 g (zs.take m ++ ys ++ zs.drop (m + ys.length)) ∧ ∀ B w0, Below B w0 w → B ≤ g → Below B w0 w2 := by
  have hrun := run_copy_row (P := Try.prog) w 30 30 3 2 g m dLen dCap a sLen sCap (zs.map (Value.int .i64)).toArray 2 (ys.map (Value.int .i64)) Try.underlying30 Try.size_i64 hB (by rw [List.length_map]; exact hn) (by
    intro j u hu
    have hj : j < ys.length := by
      rcases Nat.lt_or_ge j ys.length with h | h
      · exact h
      · rw [List.getElem?_eq_none (by simpa using h)] at hu; cases hu
    obtain ⟨b, o, e, hc⟩ := hs j hj
    simp only [Option.some.injEq] at e
    subst e
    rw [Addr.add_lit, hc]
    simp [hj] at hu
    simp [List.getD, hj, hu]) (by simpa using hfit) (by intro u hu; simp at hu; obtain ⟨x, _, rfl⟩ := hu; rfl)
  rw [List.length_map] at hrun
  refine ⟨_, hrun, ?_, fun B w0 hb hg => below_setRow hb hg _⟩
  have := setRow_heap w g _ (List.take m (zs.map (Value.int .i64)).toArray.toList ++ ys.map (Value.int .i64) ++ List.drop (m + ys.length) (zs.map (Value.int .i64)).toArray.toList).toArray _ _ hB
  unfold Blk
  rw [this]
  simp
theorem and_mask (n : Nat) (h : n ≤ 1000000) : bits .and .u64 (n : Int) 4294967295 = (n : Int) := by
  have h1 := u64_and n 4294967295 (by omega) (by omega)
  rw [show ((4294967295 : Nat) : Int) = 4294967295 from rfl] at h1
  rw [h1, show (4294967295 : Nat) = 2 ^ 32 - 1 from rfl, Nat.and_two_pow_sub_one_eq_mod, Nat.mod_eq_of_lt (by omega)]
theorem mul64_one (n : Nat) (w : World) (h : n ≤ 1000000) : Calls Try.prog 35 #[.int .u64 1, .int .u64 n] w fun e w' => e = .returned (.tuple #[.int .u64 0, .int .u64 n]) ∧ w' = w := by
  have h1 := and_mask n h
  have h2 : (n : Int) / 4294967296 = 0 := by omega
  have h3 : bits .and .u64 (1 : Int) 4294967295 = 1 := by decide
  have h4 : bits .and .u64 (0 : Int) 4294967295 = 0 := by decide
  go_enter Try.func35, Try.ntmps35
  go_wp2_with fail
  exact bodyPost_ret (v := .tuple #[.int .u64 0, .int .u64 n]) (by simp [results, Try.results35, go_sem]) rfl ⟨rfl, rfl⟩
theorem mul_one (n : Nat) (w : World) (h : n ≤ 1000000) : Calls Try.prog 32 #[.int .u64 1, .int .u64 n] w fun e w' => e = .returned (.tuple #[.int .u64 0, .int .u64 n]) ∧ w' = w := by
  have HC := hideH (mul64_one n w h)
  go_enter Try.func32, Try.ntmps32
  go_wp2_with fail
  refine Calls.mono HC.out ?_
  rintro e w' ⟨rfl, rfl⟩
  go_wp2_with fail
  exact bodyPost_ret (v := .tuple #[.int .u64 0, .int .u64 n]) (by simp [results, Try.results32, go_sem]) rfl ⟨rfl, rfl⟩
/-- What Repeat has made after m. -/
def rep (v : Int) (n m : Nat) : List Int := List.replicate m v ++ List.replicate (n - m) 0
theorem rep_len (v : Int) (n m : Nat) (h : m ≤ n) : (rep v n m).length = n := by simp [rep]; omega
theorem rep_zero (v : Int) (n : Nat) : rep v n 0 = List.replicate n 0 := by simp [rep]
theorem rep_all (v : Int) (n : Nat) : rep v n n = List.replicate n v := by simp [rep]
theorem rep_more (v : Int) (n m k : Nat) (h : m + k ≤ n) : (rep v n m).take m ++ List.replicate k v ++ (rep v n m).drop (m + k) = rep v n (m + k) := by
  unfold rep
  rw [List.take_left' (by simp), List.drop_append, List.drop_eq_nil_of_le (by simp), List.nil_append, List.drop_replicate, List.length_replicate, List.replicate_append_replicate]
  congr 2
  omega
theorem rep_head (v : Int) (n m k : Nat) (h : k ≤ m) : (rep v n m).take k = List.replicate k v := by
  unfold rep
  rw [List.take_append_of_le_length (by simpa using h), List.take_replicate, Nat.min_eq_left h]
theorem Row64.taken {w : World} {ao : Option Addr} {zs : List Int} (h : Row64 w ao zs) (k : Nat) : Row64 w ao (zs.take k) := by
  intro i hi
  rw [List.length_take] at hi
  obtain ⟨b, o, e, hc⟩ := h i (by omega)
  refine ⟨b, o, e, ?_⟩
  rw [hc]
  simp [List.getD, (by omega : i < k)]
set_option maxRecDepth 100000 in
set_option maxHeartbeats 6400000 in
theorem repeat_one (b off c n : Nat) (v : Int) (w : World) (hr : Row64 w (some ⟨b, off, none⟩) [v]) (h0 : 0 < n) (hn : n ≤ 1000) :
    Calls Try.prog 28 #[.slice (some ⟨b, off, none⟩) 1 c, .int .i64 n] w fun e w' => e = .returned (.slice (some ⟨w.heap.size, 0, none⟩) n n) ∧ Blk w' w.heap.size (List.replicate n v) ∧ Below w.heap.size w w' := by
  obtain ⟨i0, hi, hz0, hz1, hz2⟩ := info_parts Try.info_i64
  have HM := hideH (mul_one n w (by omega))
  have wn : IntKind.u64.wrap (n : Int) = (n : Int) := by rw [IntKind.wrap_u64]; omega
  have HR := hideH hr
  clear hr
  go_enter Try.func28, Try.ntmps28
  go_wp2_with fail
  refine Calls.mono HM.out ?_
  rintro e w' ⟨rfl, rfl⟩
  go_wp2_with (at_make; refine wpList_make_full _ rfl _ _ 30 rfl w'.heap.size 2 i0 (.int .i64 0) 1 Try.underlying30 hi hz0 hz1 _ _ _ _ n rfl rfl rfl rfl (by rw [hz2]; omega) (by unfold maxLen; omega) (Nat.le_refl _) ?_)
  intro w1 hown hgrow
  rw [toList_madeCells_one, ← List.map_replicate, ← rep_zero v n] at hown
  obtain ⟨hB1, _⟩ := Blk.of hown
  have hb1 : Below w'.heap.size w' w1 := (Below.refl _ _).grown hgrow (Nat.le_refl _) (by simp)
  obtain ⟨w2, hrun, hB2, hb2⟩ := copy_blk w1 w'.heap.size (rep v n 0) (List.replicate 1 v) 0 n n 1 c ⟨b, off, none⟩ hB1 (HR.out.below hb1) (by rw [List.length_replicate]; exact (Nat.min_eq_left h0).symm) (by rw [rep_len _ _ _ (by omega)]; simp; omega)
  rw [List.length_replicate, rep_more v n 0 1 (by omega)] at hB2
  have HBk2 := hideH hB2
  have HB2 := hideH (hb2 _ _ hb1 (Nat.le_refl _))
  rw [List.length_replicate] at hrun
  clear hown hgrow hB1 hb1 hB2 hb2
  go_wp2_with fail
  clear hrun
  go_loopw [8] (fun i wr => ∃ m : Nat, 0 < m ∧ m ≤ n ∧ i = .int .i64 m ∧ Hid (Blk wr w'.heap.size (rep v n m)) ∧ Hid (Below w'.heap.size w' wr)) (fun i _ => n - (intOf i).toNat)
  case atStart => exact ⟨1, by omega, by omega, rfl, HBk2, HB2⟩
  case round =>
    clear HBk2 HB2
    obtain ⟨m, hm0, hmn, rfl, HBk, HB⟩ := hrel
    by_cases hlt : m < n
    · obtain ⟨k, hk⟩ : ∃ k, Nat.min m (n - m) = k := ⟨_, rfl⟩
      have hk1 : k ≤ m := by rw [← hk]; exact Nat.min_le_left _ _
      have hk2 : k ≤ n - m := by rw [← hk]; exact Nat.min_le_right _ _
      have hk3 : 0 < k := by rw [← hk]; exact Nat.lt_min.2 ⟨hm0, by omega⟩
      obtain ⟨w3, hrun, hB3, hb3⟩ := copy_blk wr.drew w'.heap.size (rep v n m) (List.replicate k v) m (n - m) (n - m) m n ⟨w'.heap.size, 0, none⟩ HBk.out (by rw [← rep_head v n m k hk1]; exact (Blk.row (w := wr.drew) HBk.out).taken k) (by simp [hk]) (by rw [rep_len _ _ _ hmn]; simp; omega)
      rw [List.length_replicate, rep_more v n m k (by omega)] at hB3
      rw [List.length_replicate] at hrun
      have HBk3 := hideH hB3
      have HB3 := hideH (hb3 _ _ (HB.out.drew) (Nat.le_refl _))
      clear hB3 hb3 hk
      have hne : ¬ n = m := by omega
      go_upto_region 9 with fail
      go_region
      go_wp2_with fail
      exact ⟨⟨m + k, by omega, by omega, by go_num, HBk3, HB3⟩, by simp [intOf]; omega⟩
    · have e : m = n := by omega
      subst e
      have HF : Hid (Blk wr w'.heap.size (List.replicate m v)) := by rw [← rep_all]; exact HBk.out
      go_wp2_with fail
      go_ret
      exact ⟨rfl, HF.out, HB.out⟩
end Go.Proofs.Ytpbchecindmfeaa
