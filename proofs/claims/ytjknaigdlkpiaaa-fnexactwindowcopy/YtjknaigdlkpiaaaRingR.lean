import Derived.Test.YtjknaigdlkpiaaaRingW
import Derived.BigRegion
namespace Go.Proofs.Ytjknaigdlkpiaaa
open Go.RowKit
attribute [local go_sem ↓] Go.wp_at_zero Go.wp_at_succ
set_option linter.unusedVariables false

/-- The list that is filled, after k rounds. -/
def filled (t : List Int) (dist n k : Nat) : List Int := dataN t dist k ++ List.replicate (n - k) 0
theorem filled_len (t : List Int) (dist n k : Nat) (h : k ≤ n) : (filled t dist n k).length = n := by simp [filled, dataN_len]; omega
theorem filled_zero (t : List Int) (dist n : Nat) : filled t dist n 0 = List.replicate n 0 := by simp [filled, dataN, copyN]
theorem filled_all (t : List Int) (dist n : Nat) : filled t dist n n = dataN t dist n := by simp [filled]
theorem filled_succ (t : List Int) (dist n k : Nat) (h : k < n) : (filled t dist n k).set k ((copyN t dist k).getD ((copyN t dist k).length - dist) 0) = filled t dist n (k + 1) := by
  have e2 : n - k = (n - (k + 1)) + 1 := by omega
  unfold filled
  rw [dataN_succ, e2, List.replicate_succ, List.set_append_right _ _ (by rw [dataN_len]; omega), dataN_len]
  simp
theorem filled_map (t : List Int) (dist n k : Nat) (h : k < n) (x : Int) (hx : x = (copyN t dist k).getD ((copyN t dist k).length - dist) 0) : ((filled t dist n k).map (Value.int .u8)).set k (.int .u8 x) = (filled t dist n (k + 1)).map (Value.int .u8) := by
  rw [← filled_succ t dist n k h, List.map_set, hx]

/-- A ring with what it tells, its numbers left open. -/
def RingT (w : World) (g s : Nat) (t : List Int) : Prop := ∃ rs p c, RingAt w g rs s (p : Nat) (c : Nat) ∧ RingIs rs s p c t

theorem back_at (s p dist : Nat) (hp : p < s) (h0 : 1 ≤ dist) (h1 : dist ≤ s) : ∃ q, q = wr s (p + s - dist) ∧ q < s ∧ ((p : Int) + (s : Int) - (dist : Int)).tmod (s : Int) = (q : Int) := by
  refine ⟨_, rfl, by unfold wr; split <;> omega, ?_⟩
  rw [← wr_mod (by omega), show (p : Int) + (s : Int) - (dist : Int) = ((p + s - dist : Nat) : Int) by omega, ← Int.ofNat_tmod]

theorem own_kept {w w' : World} {B e D n g : Nat} {xs : List Value} (h : w.ownsRow B e 1 (.slice (some ⟨D, 0, none⟩) n n) n xs) (hg : w.grownBy w' (some g)) (hne : D ≠ g) : w'.ownsRow B e 1 (.slice (some ⟨D, 0, none⟩) n n) n xs := by
  refine World.ownsRow.kept h hg (.inr ?_)
  intro he
  have : D = g := by simpa [Value.ownBlock] using he
  exact hne this
theorem own_drew {w : World} {B e D n : Nat} {xs : List Value} (h : w.ownsRow B e 1 (.slice (some ⟨D, 0, none⟩) n n) n xs) : w.drew.ownsRow B e 1 (.slice (some ⟨D, 0, none⟩) n n) n xs := h

set_option maxRecDepth 100000 in
set_option maxHeartbeats 6400000 in
theorem repeat_any (g s : Nat) (t : List Int) (dist n : Nat) (w : World) (h : RingT w g s t) (hs : s ≤ 32768) (hd0 : 1 ≤ dist) (hd : dist ≤ t.length) (hn0 : 1 ≤ n) (hn : n ≤ 258) :
    Calls Try.prog 47 #[.pointer (some ⟨g, 0, none⟩), .int .i64 dist, .int .i64 n] w fun e w' => e = .returned (.slice (some ⟨w.heap.size, 0, none⟩) n n) ∧ w'.ownsRow w.heap.size 5 1 (.slice (some ⟨w.heap.size, 0, none⟩) n n) n ((dataN t dist n).map (Value.int .u8)) ∧ RingT w' g s (lastN s (copyN t dist n)) ∧ Below g w w' := by
  obtain ⟨i0, hi, hz0, hz1, hz2⟩ := info_parts Try.info_u8
  have hm : n ≤ maxLen := by unfold maxLen; omega
  have HT := hide1 h
  have hglt : g < w.heap.size := by obtain ⟨_, _, _, h1, _⟩ := h; exact h1.lt
  have htl : t.length ≤ s := by obtain ⟨_, _, _, _, h1⟩ := h; have := h1.len; have := h1.most; omega
  clear h
  go_enter Try.func47, Try.ntmps47
  go_wp2_with (at_make; refine wpList_make_full _ rfl _ _ 22 rfl w.heap.size 5 i0 (.int .u8 0) 1 Try.underlying22 hi hz0 hz1 _ _ _ _ n rfl rfl rfl rfl (by rw [hz2]; omega) hm (Nat.le_refl _) ?_)
  intro w1 hown hgrow
  rw [toList_madeCells_one, ← List.map_replicate, ← filled_zero t dist n] at hown
  have hT1 : RingT w1 g s (lastN s (copyN t dist 0)) := by
    obtain ⟨rs, p, c, h1, h2⟩ := HT.out
    refine ⟨rs, p, c, h1.grown hgrow (by simp), ?_⟩
    rw [show copyN t dist 0 = t from rfl, lastN_all htl]
    exact h2
  have hB1 : Below g w w1 := (Below.refl _ _).grown hgrow (by omega) (by simp)
  clear hgrow HT
  go_wp2_with fail
  go_loopw [13] (fun i wr => ∃ k : Nat, k ≤ n ∧ i = .int .i64 k ∧ wr.ownsRow w.heap.size 5 1 (.slice (some ⟨w.heap.size, 0, none⟩) n n) n ((filled t dist n k).map (Value.int .u8)) ∧ RingT wr g s (lastN s (copyN t dist k)) ∧ Below g w wr) (fun i _ => n - (intOf i).toNat)
  case atStart => exact ⟨0, Nat.zero_le _, rfl, hown, hT1, hB1⟩
  case round =>
    clear hown hT1 hB1
    obtain ⟨k, hk, rfl, hown, ⟨rs, p, c, hA, hI⟩, hB⟩ := hrel
    by_cases hlt : k < n
    · have hp := hI.place
      have hs0 := hI.pos
      have hcl := hI.len
      have hcs := hI.most
      have hdc : dist ≤ c := by rw [← hcl, lastN_len, copyN_len]; omega
      have hbk := hI.back hd0 hdc
      rw [← hcl, last_back s _ dist (by omega) (by rw [copyN_len]; omega)] at hbk
      have hrl := hA.len
      obtain ⟨q, hq, hqs, htm⟩ := back_at s p dist hp hd0 (by omega)
      rw [← hq] at hbk
      generalize hx : rs.getD q 0 = x at *
      have cq := hA.byte (i := q) (by omega)
      rw [hx] at cq
      obtain ⟨c0, c1, c2, fz⟩ := hA.three
      have hfz := hown.frozenAt k
      obtain ⟨u, hcu⟩ : ∃ u, wr.cell? ⟨w.heap.size, k, none⟩ = some u := by
        rw [hown.cellAt k (by omega)]
        exact ⟨_, List.getElem?_eq_getElem (by simp [filled_len t dist n k hk]; exact hlt)⟩
      have hst := (hown.stored k (.int .u8 x)).1
      rw [filled_map t dist n k hlt x hbk] at hst
      have HA1 := hide1 (hA.grown (grownBy_setCell wr ⟨w.heap.size, k, none⟩ (.int .u8 x)) (by simp; omega))
      have HB1 := hide1 (hB.grown (grownBy_setCell wr ⟨w.heap.size, k, none⟩ (.int .u8 x)) (by have := hB.size; omega) (by intro k e; simp at e; omega))
      have HS := hide1 hst
      have HI := hide1 hI
      have hqi : (q : Int) < 32768 := by omega
      have hki : (k : Int) < (n : Int) := by omega
      have HBK := hide1 hbk
      clear hown hst hA hB hI hq hx fz hcl hbk
      go_upto_region 5 with fail
      go_region
      have A2 : RingAt (wr.setCell ⟨w.heap.size, k, none⟩ (.int .u8 x)).drew g rs s p c := HA1.out.drewN 1
      have B2 : Below g w (wr.setCell ⟨w.heap.size, k, none⟩ (.int .u8 x)).drew := HB1.out.drew
      have S2 := own_drew HS.out
      have hcx : (wr.setCell ⟨w.heap.size, k, none⟩ (.int .u8 x)).drew.cell? ⟨w.heap.size, k, none⟩ = some (.int .u8 x) := World.cell?_setCell_same _ _ _ hcu
      clear HA1 HB1 HS cq c0 c1 c2 hfz hcu htm hqi hqs
      generalize (wr.setCell ⟨w.heap.size, k, none⟩ (.int .u8 x)).drew = w2 at *
      obtain ⟨c0, c1, c2, fz⟩ := A2.three
      have cp := A2.byte (i := p) (by omega)
      have fp := fz p
      have hpi : (p : Int) < 32768 := by omega
      have A3 := A2.setByte (i := p) (by omega) x
      have hg3 : w2.grownBy (w2.setCell ⟨g, p, none⟩ (.int .u8 x)) (some g) := grownBy_setCell w2 ⟨g, p, none⟩ (.int .u8 x)
      have B3 := B2.grown hg3 (by have := B2.size; omega) (by intro k e; simp at e; omega)
      have S3 := own_kept S2 hg3 (by omega)
      have HA3 : Hid (RingAt (w2.setCell ⟨g, p, none⟩ (.int .u8 x)).drew g (rs.set p x) s p c) := A3.drewN 1
      have HB3 : Hid (Below g w (w2.setCell ⟨g, p, none⟩ (.int .u8 x)).drew) := B3.drew
      have HS3 := hide1 (own_drew S3)
      clear A2 B2 S2 A3 hg3 B3 S3 fz
      go_upto_region 6 with fail
      go_region
      clear c0 c1 c2 cp fp hcx
      generalize (w2.setCell ⟨g, p, none⟩ (.int .u8 x)).drew = w3 at *
      have HM := hide1 (moveOn_any g (rs.set p x) s p c 1 w3 HA3.out hs0 hs hp hcs (by omega))
      go_wp2_with fail
      refine Calls.mono HM.out ?_
      rintro e w4 ⟨rfl, A4, hg4, hz4⟩
      have S4 := own_kept HS3.out hg4 (by omega)
      have B4 := HB3.out.grown hg4 (by have := HB3.out.size; omega) (by intro k e; simp at e; omega)
      have I4 := HI.out.one x
      have eI : lastN s (copyN t dist k ++ [x]) = lastN s (copyN t dist (k + 1)) := by rw [HBK.out]; rfl
      rw [lastN_lastN, eI] at I4
      clear HM HA3 HB3 HS3 HI hg4 hz4
      go_wp2_with fail
      go_roundw
      case rel => exact ⟨k + 1, by omega, by go_num, S4, ⟨_, _, _, A4, I4⟩, B4⟩
      case measure => simp [intOf]; omega
    · have e : k = n := by omega
      subst e
      rw [filled_all] at hown
      go_wp2_with fail
      go_ret
      exact ⟨rfl, hown, ⟨rs, p, c, hA, hI⟩, hB⟩

end Go.Proofs.Ytjknaigdlkpiaaa
