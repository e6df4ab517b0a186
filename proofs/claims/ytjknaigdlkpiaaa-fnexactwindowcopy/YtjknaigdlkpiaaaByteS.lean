import Derived.Test.YtjknaigdlkpiaaaProg
import Derived.Test.YtjknaigdlkpiaaaMem
import Derived.WalkKit
import Derived.WalkSpells
import Derived.WalkLawsBesides
import Derived.BigQuiet
namespace Go.Proofs.Ytjknaigdlkpiaaa
open Go.RowKit

theorem Try.info_u8 : (Try.prog.info? 5).map (fun i => (i.zero, i.size, i.bytes)) = some (some (.int .u8 0), 1, 1) := by kernel_rfl

/-- laws.toByteS. -/
theorem toByteS_any (ao : Option Addr) (cap : Nat) (zs : List Int) (w : World) (hr : Row w ao zs) (hn : zs.length ≤ 140737488355328) :
    Calls Try.prog 19 #[.slice ao zs.length cap] w fun e w' =>
      e = .returned (.slice (some ⟨w.heap.size, 0, none⟩) zs.length zs.length) ∧ w'.ownsRow w.heap.size 5 1 (.slice (some ⟨w.heap.size, 0, none⟩) zs.length zs.length) zs.length (zs.map (Value.int .u8)) ∧ Below w.heap.size w w' := by
  obtain ⟨i0, hi, hz0, hz1, hz2⟩ := info_parts Try.info_u8
  have hm : zs.length ≤ maxLen := by unfold maxLen; omega
  go_enter Try.func19, Try.ntmps19
  go_wp2_with (at_make; refine wpList_make_full _ rfl _ _ 22 rfl w.heap.size 5 i0 (.int .u8 0) 1 Try.underlying22 hi hz0 hz1 _ _ _ _ zs.length rfl rfl rfl rfl (by rw [hz2]; omega) hm (Nat.le_refl _) ?_)
  intro w1 hown hgrow
  rw [toList_madeCells_one] at hown
  rw [← List.map_replicate, ← copied_zero] at hown
  go_wp2_with fail
  go_loopw [4] (fun i wr => ∃ k : Nat, k ≤ zs.length ∧ i = .int .i64 k ∧ wr.ownsRow w.heap.size 5 1 (.slice (some ⟨w.heap.size, 0, none⟩) zs.length zs.length) zs.length ((copied zs k).map (Value.int .u8)) ∧ Below w.heap.size w wr) (fun i _ => zs.length - (intOf i).toNat)
  case atStart => exact ⟨0, Nat.zero_le _, rfl, hown, (Below.refl _ _).grown hgrow (Nat.le_refl _) (by simp)⟩
  case round =>
    clear hown hgrow
    obtain ⟨k, hk, rfl, hown, hbel⟩ := hrel
    by_cases hlt : k < zs.length
    · obtain ⟨b, off, rfl, hc⟩ := hr.at hlt
      have hb : b < w.heap.size := World.block_lt_of_cell? w _ (hc k hlt)
      have hcx : wr.cell? ⟨b, off + k, none⟩ = some (.int .u8 (zs.getD k 0)) := (hbel.cell (by exact hb)).trans (hc k hlt)
      have hfz := hown.frozenAt k
      have hco : ∃ u, wr.cell? ⟨w.heap.size, k, none⟩ = some u := by
        rw [hown.cellAt k (by omega)]
        exact ⟨_, List.getElem?_eq_getElem (by simp [copied_len zs k hk]; exact hlt)⟩
      obtain ⟨u, hcu⟩ := hco
      have hst := (hown.stored k (.int .u8 (zs.getD k 0))).1
      rw [copied_map zs k hlt] at hst
      have hbst := hbel.setCell (p := ⟨w.heap.size, k, none⟩) (Nat.le_refl _) (.int .u8 (zs.getD k 0))
      clear hc hown hr
      generalize zs.getD k 0 = x at *
      go_wp2_with fail
      go_roundw
      case rel => exact ⟨k + 1, by omega, by go_num, hst, hbst⟩
      case measure => simp [intOf]; omega
    · have e : k = zs.length := by omega
      subst e
      rw [copied_all] at hown
      go_wp2_with fail
      go_ret
      exact ⟨rfl, hown, hbel⟩

/-- laws.eqByteS. -/
theorem eqByteS_any (ao bo : Option Addr) (ca cb : Nat) (za zb : List Int) (w : World) (ha : Row w ao za) (hb : Row w bo zb) (hn : za.length ≤ 140737488355328) :
    Calls Try.prog 21 #[.slice ao za.length ca, .slice bo zb.length cb] w fun e w' => e = .returned (.bool (decide (za = zb))) ∧ ∃ q, w' = w.drewN q := by
  by_cases hl : za.length = zb.length
  · have hl' : ((za.length : Int) != (zb.length : Int)) = false := by simp [hl]
    have HL : Hid (za.length = zb.length) := hl
    clear hl
    go_enter Try.func21, Try.ntmps21
    go_wp2_with fail
    go_loopw [5] (fun i wr => ∃ k : Nat, k ≤ za.length ∧ i = .int .i64 k ∧ (∃ q, wr = w.drewN q) ∧ Hid (∀ j, j < k → za.getD j 0 = zb.getD j 0)) (fun i _ => za.length - (intOf i).toNat)
    case atStart => exact ⟨0, Nat.zero_le _, rfl, ⟨0, rfl⟩, fun j hj => absurd hj (by omega)⟩
    case round =>
      obtain ⟨k, hk, rfl, ⟨q, rfl⟩, HE⟩ := hrel
      by_cases hlt : k < za.length
      · have hltb : k < zb.length := by have := HL.out; omega
        obtain ⟨b1, o1, rfl, hc1⟩ := ha.at hlt
        obtain ⟨b2, o2, rfl, hc2⟩ := hb.at hltb
        have h1 := hc1 k hlt
        have h2 := hc2 k hltb
        clear hc1 hc2 ha hb
        by_cases he : za.getD k 0 = zb.getD k 0
        · have HN : Hid (∀ j, j < k + 1 → za.getD j 0 = zb.getD j 0) := by
            intro j hj
            rcases Nat.lt_succ_iff_lt_or_eq.1 hj with h | rfl
            · exact HE.out j h
            · exact he
          rw [← he] at h2
          generalize za.getD k 0 = x at *
          clear he HE
          go_wp2_with fail
          go_quiet (fail)
          go_wp2_with fail
          go_roundw
          case rel => exact ⟨k + 1, by omega, by go_num, ⟨_, rfl⟩, HN⟩
          case measure => simp [intOf]; omega
        · have hne : (za.getD k 0 != zb.getD k 0) = true := by simpa using he
          have hf : Hid (decide (za = zb) = false) := by
            show decide (za = zb) = false
            simp only [decide_eq_false_iff_not]
            intro h
            rw [h] at he
            exact he rfl
          generalize za.getD k 0 = x at *
          generalize zb.getD k 0 = y at *
          clear he HE
          go_wp2_with fail
          go_quiet (fail)
          go_wp2_with fail
          go_ret
          refine ⟨retb hf.out.symm, ?_⟩
          simp only [World.drewN_drewN]
          exact ⟨_, rfl⟩
      · have e : k = za.length := by omega
        have hf : Hid (decide (za = zb) = true) := by
          show decide (za = zb) = true
          rw [decide_eq_true_iff]
          refine list_eq HL.out (fun j hj => HE.out j (by omega))
        clear HE
        go_wp2_with fail
        go_ret
        exact ⟨retb hf.out.symm, q, rfl⟩
  · have hl' : ((za.length : Int) != (zb.length : Int)) = true := by simpa using (by omega : ¬ (za.length : Int) = zb.length)
    have hf : Hid (decide (za = zb) = false) := by
      show decide (za = zb) = false
      simp only [decide_eq_false_iff_not]
      intro h
      rw [h] at hl
      exact hl rfl
    clear hl
    go_enter Try.func21, Try.ntmps21
    go_wp2_with fail
    go_ret
    exact ⟨retb hf.out.symm, 0, rfl⟩

/-- laws.markByteS. -/
theorem markByteS_any (ao : Option Addr) (cap : Nat) (zs : List Int) (k : Nat) (w : World) (hr : Row w ao zs) (ho : Open w ao zs.length) (hn : zs.length ≤ 140737488355328) (hk : k ≤ 140737488355328) :
    Calls Try.prog 22 #[.slice ao zs.length cap, .int .i64 k] w fun e w' =>
      e = .returned (.int .i64 ((k + zs.length : Nat) : Int)) ∧ Row w' ao (marks k zs.length) ∧ Open w' ao zs.length ∧ w.grownBy w' (blk ao) ∧ w'.heap.size = w.heap.size := by
  go_enter Try.func22, Try.ntmps22
  go_wp2_with fail
  go_loopw [1, 5] (fun kk i wr => ∃ j : Nat, j ≤ zs.length ∧ kk = .int .i64 ((k + j : Nat) : Int) ∧ i = .int .i64 j ∧ Row wr ao (marked zs k j) ∧ Open wr ao zs.length ∧ w.grownBy wr (blk ao) ∧ wr.heap.size = w.heap.size) (fun _ i _ => zs.length - (intOf i).toNat)
  case atStart => exact ⟨0, Nat.zero_le _, rfl, rfl, by rw [marked_zero]; exact hr, ho, World.grownBy.refl _ _, rfl⟩
  case round =>
    clear hr ho
    obtain ⟨j, hj, rfl, rfl, hr, ho, hg, hz⟩ := hrel
    have hml := marked_len zs k j hj
    by_cases hlt : j < zs.length
    · obtain ⟨b, off, rfl, hc⟩ := hr.at (k := j) (by omega)
      have hcj := hc j (by omega)
      have hfj : wr.frozen? ⟨b, off + j, none⟩ = false := ho _ rfl j hlt
      have hr2 := hr.set (k := j) (by omega) ((((k + j : Nat) : Int)) % 256)
      rw [marked_succ zs k j hlt] at hr2
      have hg2 : w.grownBy (wr.setCell ⟨b, off + j, none⟩ (.int .u8 ((((k + j : Nat) : Int)) % 256))) (blk (some ⟨b, off, none⟩)) := grownBy_trans hg (grownBy_setCell wr ⟨b, off + j, none⟩ _)
      have ho2 : Open (wr.setCell ⟨b, off + j, none⟩ (.int .u8 ((((k + j : Nat) : Int)) % 256))) (some ⟨b, off, none⟩) zs.length := by
        intro ad e i hi
        rw [World.frozen?_setCell]
        exact ho ad e i hi
      clear hc hr ho hg hml
      generalize (marked zs k j).getD j 0 = x at *
      simp only [Int.natCast_add] at hr2 hg2 ho2
      have hz2 : (wr.setCell ⟨b, off + j, none⟩ (.int .u8 (((k : Int) + (j : Int)) % 256))).heap.size = w.heap.size := by simpa using hz
      clear hz
      go_wp2_with fail
      go_roundw
      case rel => exact ⟨j + 1, by omega, by go_num, by go_num, hr2, ho2, hg2, hz2⟩
      case measure => simp [intOf]; omega
    · have e : j = zs.length := by omega
      subst e
      rw [marked_all] at hr
      go_wp2_with fail
      go_ret
      exact ⟨by go_num, hr, ho, hg, hz⟩

/-- laws.heldByteS, at what markByteS has left. -/
theorem heldByteS_any (ao : Option Addr) (cap : Nat) (n k : Nat) (w : World) (hr : Row w ao (marks k n)) (hn : n ≤ 140737488355328) (hk : k ≤ 140737488355328) :
    Calls Try.prog 49 #[.slice ao n cap, .int .i64 k] w fun e w' => e = .returned (.int .i64 ((k + n : Nat) : Int)) ∧ w' = w := by
  go_enter Try.func49, Try.ntmps49
  go_wp2_with fail
  go_loop [1, 5] (fun kk i => ∃ j : Nat, j ≤ n ∧ kk = .int .i64 ((k + j : Nat) : Int) ∧ i = .int .i64 j) (fun _ i => n - (intOf i).toNat)
  case atStart => exact ⟨0, Nat.zero_le _, rfl, rfl⟩
  case round =>
    obtain ⟨j, hj, rfl, rfl⟩ := hrel
    by_cases hlt : j < n
    · obtain ⟨b, off, rfl, hc⟩ := hr.at (k := j) (by rw [marks_len]; exact hlt)
      have hcj := hc j (by rw [marks_len]; exact hlt)
      rw [marks_getD k n j hlt, Int.natCast_add] at hcj
      clear hc hr
      go_wp2_with fail
      go_round
      case rel => exact ⟨j + 1, by omega, by go_num, by go_num⟩
      case measure => simp [intOf]; omega
    · have e : j = n := by omega
      subst e
      clear hr
      go_wp2_with fail
      go_ret
      exact ⟨by go_num, rfl⟩
end Go.Proofs.Ytjknaigdlkpiaaa
