import Derived.BigRegion
import Derived.Laws.CopyOwn
import Derived.Test.YtbddkkfakkedaaaGreatDoorMAC
import Derived.Test.YtbddkkfakkedaaaGreatDoorMAE
namespace Go.Proofs.YtbddkkfakkedaaaGreatDoor
open Go.RowKit
attribute [local go_sem ↓] Go.wp_at_zero Go.wp_at_succ
set_option linter.unusedVariables false

theorem Row.none_len {w : World} {ao : Option Addr} {zs : List Int} (h : Row w ao zs) (e : ao = none) : zs.length = 0 := by
  rcases Nat.eq_zero_or_pos zs.length with h0 | h0
  · exact h0
  · obtain ⟨b, off, e', _⟩ := h 0 h0
    rw [e] at e'; cases e'
theorem gcellw {W w1 : World} {r : Option Nat} (h : W.grownBy w1 r) : (∀ b o, b < W.heap.size → some b ≠ r → w1.cell? ⟨b, o, none⟩ = W.cell? ⟨b, o, none⟩) ∧ (∀ b o, b < W.heap.size → some b ≠ r → w1.frozen? ⟨b, o, none⟩ = W.frozen? ⟨b, o, none⟩) :=
  ⟨fun b o hb hne => World.cell?_of_block (w := W) (h.block b hb hne), fun b o hb hne => World.frozen?_of_block (w := W) (h.block b hb hne)⟩
theorem OwnsB.block {e B : Nat} {w : World} {ao : Option Addr} {cap n : Nat} {zs : List Int} (h : OwnsB e B w ao cap zs) {b : Nat} (hb : b < B) : some b ≠ (Value.slice ao n cap).ownBlock := by
  intro e'
  cases ao with
  | none => simp [Value.ownBlock] at e'
  | some ad =>
    have := (h.mine.lies ad rfl).1
    simp [Value.ownBlock] at e'
    omega

end Go.Proofs.YtbddkkfakkedaaaGreatDoor
namespace Go.Proofs.YtbddkkfakkedaaaGreatDoor
open Go.RowKit
attribute [local go_sem ↓] Go.wp_at_zero Go.wp_at_succ
set_option linter.unusedVariables false

/-- The list that is filled, after k rounds. -/
def filled (t : List Int) (dist n k : Nat) : List Int := dataN t dist k ++ List.replicate (n - k) 0
theorem filled_len (t : List Int) (dist n k : Nat) (h : k ≤ n) : (filled t dist n k).length = n := by simp [filled, dataN_len]; omega
theorem filled_zero (t : List Int) (dist n : Nat) : filled t dist n 0 = List.replicate n 0 := by simp [filled, dataN, copyN]
theorem filled_all (t : List Int) (dist n : Nat) : filled t dist n n = dataN t dist n := by simp [filled]
theorem filled_succ (t : List Int) (dist n k : Nat) (h : k < n) : (filled t dist n k).set k ((copyN t dist k).getD ((copyN t dist k).length - dist) 0) = filled t dist n (k + 1) := by
  have e2 : n - k = (n - (k + 1)) + 1 := by omega
  unfold filled
  rw [dataN_succ, e2, List.replicate_succ, List.set_append_right _ _ (by rw [dataN_len]; omega), dataN_len]
  simp
theorem filled_map (t : List Int) (dist n k : Nat) (h : k < n) (x : Int) (hx : x = (copyN t dist k).getD ((copyN t dist k).length - dist) 0) : ((filled t dist n k).map (Value.int .u8)).set k (.int .u8 x) = (filled t dist n (k + 1)).map (Value.int .u8) := by
  rw [← filled_succ t dist n k h, List.map_set, hx]

/-- A ring with what it tells, its numbers left open. -/
def RingT (w : World) (g s : Nat) (t : List Int) : Prop := ∃ rs p c, RingAt w g rs s (p : Nat) (c : Nat) ∧ RingIs rs s p c t

theorem back_at (s p dist : Nat) (hp : p < s) (h0 : 1 ≤ dist) (h1 : dist ≤ s) : ∃ q, q = wr s (p + s - dist) ∧ q < s ∧ ((p : Int) + (s : Int) - (dist : Int)).tmod (s : Int) = (q : Int) := by
  refine ⟨_, rfl, by unfold wr; split <;> omega, ?_⟩
  rw [← wr_mod (by omega), show (p : Int) + (s : Int) - (dist : Int) = ((p + s - dist : Nat) : Int) by omega, ← Int.ofNat_tmod]

theorem own_kept {w w' : World} {B e D n g : Nat} {xs : List Value} (h : w.ownsRow B e 1 (.slice (some ⟨D, 0, none⟩) n n) n xs) (hg : w.grownBy w' (some g)) (hne : D ≠ g) : w'.ownsRow B e 1 (.slice (some ⟨D, 0, none⟩) n n) n xs := by
  refine World.ownsRow.kept h hg (.inr ?_)
  intro he
  have : D = g := by simpa [Value.ownBlock] using he
  exact hne this
theorem own_drew {w : World} {B e D n : Nat} {xs : List Value} (h : w.ownsRow B e 1 (.slice (some ⟨D, 0, none⟩) n n) n xs) : w.drew.ownsRow B e 1 (.slice (some ⟨D, 0, none⟩) n n) n xs := h

set_option maxRecDepth 100000 in
set_option maxHeartbeats 6400000 in
theorem repeat_any (g s : Nat) (t : List Int) (dist n : Nat) (w : World) (h : RingT w g s t) (hs : s ≤ 32768) (hd0 : 1 ≤ dist) (hd : dist ≤ t.length) (hn0 : 1 ≤ n) (hn : n ≤ 258) :
    Calls Tryz.prog 188 #[.pointer (some ⟨g, 0, none⟩), .int .i64 dist, .int .i64 n] w fun e w' => e = .returned (.slice (some ⟨w.heap.size, 0, none⟩) n n) ∧ w'.ownsRow w.heap.size 5 1 (.slice (some ⟨w.heap.size, 0, none⟩) n n) n ((dataN t dist n).map (Value.int .u8)) ∧ RingT w' g s (lastN s (copyN t dist n)) ∧ Below g w w' := by
  obtain ⟨i0, hi, hz0, hz1, hz2⟩ := info_parts Tryz.info_u8
  have hm : n ≤ maxLen := by unfold maxLen; omega
  have HT := hide1 h
  have hglt : g < w.heap.size := by obtain ⟨_, _, _, h1, _⟩ := h; exact h1.lt
  have htl : t.length ≤ s := by obtain ⟨_, _, _, _, h1⟩ := h; have := h1.len; have := h1.most; omega
  clear h
  go_enter Tryz.func188, Tryz.ntmps188
  go_wp2_with (at_make; refine wpList_make_full _ rfl _ _ 22 rfl w.heap.size 5 i0 (.int .u8 0) 1 Tryz.underlying22 hi hz0 hz1 _ _ _ _ n rfl rfl rfl rfl (by rw [hz2]; omega) hm (Nat.le_refl _) ?_)
  intro w1 hown hgrow
  rw [toList_madeCells_one, ← List.map_replicate, ← filled_zero t dist n] at hown
  have hT1 : RingT w1 g s (lastN s (copyN t dist 0)) := by
    obtain ⟨rs, p, c, h1, h2⟩ := HT.out
    refine ⟨rs, p, c, h1.grown hgrow (by simp), ?_⟩
    rw [show copyN t dist 0 = t from rfl, lastN_all htl]
    exact h2
  have hB1 : Below g w w1 := (Below.refl _ _).grown hgrow (by omega) (by simp)
  clear hgrow HT
  go_wp2_with fail
  go_loopw [13] (fun i wr => ∃ k : Nat, k ≤ n ∧ i = .int .i64 k ∧ wr.ownsRow w.heap.size 5 1 (.slice (some ⟨w.heap.size, 0, none⟩) n n) n ((filled t dist n k).map (Value.int .u8)) ∧ RingT wr g s (lastN s (copyN t dist k)) ∧ Below g w wr) (fun i _ => n - (intOf i).toNat)
  case atStart => exact ⟨0, Nat.zero_le _, rfl, hown, hT1, hB1⟩
  case round =>
    clear hown hT1 hB1
    obtain ⟨k, hk, rfl, hown, ⟨rs, p, c, hA, hI⟩, hB⟩ := hrel
    by_cases hlt : k < n
    · have hp := hI.place
      have hs0 := hI.pos
      have hcl := hI.len
      have hcs := hI.most
      have hdc : dist ≤ c := by rw [← hcl, lastN_len, copyN_len]; omega
      have hbk := hI.back hd0 hdc
      rw [← hcl, last_back s _ dist (by omega) (by rw [copyN_len]; omega)] at hbk
      have hrl := hA.len
      obtain ⟨q, hq, hqs, htm⟩ := back_at s p dist hp hd0 (by omega)
      rw [← hq] at hbk
      generalize hx : rs.getD q 0 = x at *
      have cq := hA.byte (i := q) (by omega)
      rw [hx] at cq
      obtain ⟨c0, c1, c2, fz⟩ := hA.three
      have hfz := hown.frozenAt k
      obtain ⟨u, hcu⟩ : ∃ u, wr.cell? ⟨w.heap.size, k, none⟩ = some u := by
        rw [hown.cellAt k (by omega)]
        exact ⟨_, List.getElem?_eq_getElem (by simp [filled_len t dist n k hk]; exact hlt)⟩
      have hst := (hown.stored k (.int .u8 x)).1
      rw [filled_map t dist n k hlt x hbk] at hst
      have HA1 := hide1 (hA.grown (grownBy_setCell wr ⟨w.heap.size, k, none⟩ (.int .u8 x)) (by simp; omega))
      have HB1 := hide1 (hB.grown (grownBy_setCell wr ⟨w.heap.size, k, none⟩ (.int .u8 x)) (by have := hB.size; omega) (by intro k e; simp at e; omega))
      have HS := hide1 hst
      have HI := hide1 hI
      have hqi : (q : Int) < 32768 := by omega
      have hki : (k : Int) < (n : Int) := by omega
      have HBK := hide1 hbk
      clear hown hst hA hB hI hq hx fz hcl hbk
      go_upto_region 5 with fail
      go_region
      have A2 : RingAt (wr.setCell ⟨w.heap.size, k, none⟩ (.int .u8 x)).drew g rs s p c := HA1.out.drewN 1
      have B2 : Below g w (wr.setCell ⟨w.heap.size, k, none⟩ (.int .u8 x)).drew := HB1.out.drew
      have S2 := own_drew HS.out
      have hcx : (wr.setCell ⟨w.heap.size, k, none⟩ (.int .u8 x)).drew.cell? ⟨w.heap.size, k, none⟩ = some (.int .u8 x) := World.cell?_setCell_same _ _ _ hcu
      clear HA1 HB1 HS cq c0 c1 c2 hfz hcu htm hqi hqs
      generalize (wr.setCell ⟨w.heap.size, k, none⟩ (.int .u8 x)).drew = w2 at *
      obtain ⟨c0, c1, c2, fz⟩ := A2.three
      have cp := A2.byte (i := p) (by omega)
      have fp := fz p
      have hpi : (p : Int) < 32768 := by omega
      have A3 := A2.setByte (i := p) (by omega) x
      have hg3 : w2.grownBy (w2.setCell ⟨g, p, none⟩ (.int .u8 x)) (some g) := grownBy_setCell w2 ⟨g, p, none⟩ (.int .u8 x)
      have B3 := B2.grown hg3 (by have := B2.size; omega) (by intro k e; simp at e; omega)
      have S3 := own_kept S2 hg3 (by omega)
      have HA3 : Hid (RingAt (w2.setCell ⟨g, p, none⟩ (.int .u8 x)).drew g (rs.set p x) s p c) := A3.drewN 1
      have HB3 : Hid (Below g w (w2.setCell ⟨g, p, none⟩ (.int .u8 x)).drew) := B3.drew
      have HS3 := hide1 (own_drew S3)
      clear A2 B2 S2 A3 hg3 B3 S3 fz
      go_upto_region 6 with fail
      go_region
      clear c0 c1 c2 cp fp hcx
      generalize (w2.setCell ⟨g, p, none⟩ (.int .u8 x)).drew = w3 at *
      have HM := hide1 (moveOn_any g (rs.set p x) s p c 1 w3 HA3.out hs0 hs hp hcs (by omega))
      go_wp2_with fail
      refine Calls.mono HM.out ?_
      rintro e w4 ⟨rfl, A4, hg4, hz4⟩
      have S4 := own_kept HS3.out hg4 (by omega)
      have B4 := HB3.out.grown hg4 (by have := HB3.out.size; omega) (by intro k e; simp at e; omega)
      have I4 := HI.out.one x
      have eI : lastN s (copyN t dist k ++ [x]) = lastN s (copyN t dist (k + 1)) := by rw [HBK.out]; rfl
      rw [lastN_lastN, eI] at I4
      clear HM HA3 HB3 HS3 HI hg4 hz4
      go_wp2_with fail
      go_roundw
      case rel => exact ⟨k + 1, by omega, by go_num, S4, ⟨_, _, _, A4, I4⟩, B4⟩
      case measure => simp [intOf]; omega
    · have e : k = n := by omega
      subst e
      rw [filled_all] at hown
      go_wp2_with fail
      go_ret
      exact ⟨rfl, hown, ⟨rs, p, c, hA, hI⟩, hB⟩

end Go.Proofs.YtbddkkfakkedaaaGreatDoor
namespace Go.Proofs.YtbddkkfakkedaaaGreatDoor
open Go.RowKit
attribute [local go_sem ↓] Go.wp_at_zero Go.wp_at_succ
set_option linter.unusedVariables false

theorem gdrew (w : World) (g : Nat) : w.grownBy w.drew (some g) := grownBy_of_below ((Below.refl w.heap.size w).drew) _
theorem grow_over {a b c : World} {r r' : Option Nat} (h : a.grownBy b r) (k : b.grownBy c r') (hr : ∀ g, r' = some g → r = some g ∨ a.heap.size ≤ g) : a.grownBy c r := by
  refine ⟨k.os.trans h.os, k.tape.trans h.tape, k.output.trans h.output, Nat.le_trans h.size k.size, fun i hi hne => ?_⟩
  rw [k.block i (Nat.lt_of_lt_of_le hi h.size) ?_, h.block i hi hne]
  intro e
  rcases hr i e.symm with h1 | h1
  · exact hne h1.symm
  · omega
theorem grown_setRow {g : Nat} {w0 w : World} (hb : w0.grownBy w (some g)) (cs : Array Value) : w0.grownBy (w.setRow g cs) (some g) :=
  grownBy_trans hb ⟨rfl, rfl, rfl, by simp [World.setRow], fun k hk hne => setRow_other w g k cs (fun e => hne (by rw [e]))⟩
theorem step_copy_far {P : Program} {ops : Array Oper} {o : Oper} {a : Act} {w : World} {K : Act → World → Prop} {Q : Exit → Act → World → Prop} {E : Prop} (hgd : o.guard = none) (d s : Operand) (dT sT : TypeId)
    (ho : o.op = .call { callee := .builtin .copy, args := #[d, s], argTypes := #[dT, sT] }) (elem : TypeId) (hu : P.underlying dT = some (.slice elem)) (hsz : (P.info? elem).map (·.size) = some 1)
    (dp sp : Option Addr) (dLen dCap sLen sCap : Nat) (hd : a.eval d = .slice dp dLen dCap) (hs : a.eval s = .slice sp sLen sCap)
    (g off : Nat) (cur : List Value) (t : TypeId) (hg : w.heap[g]? = some (.cells cur.toArray t (0, 0))) (cs : List Value) (hn : cs.length = Nat.min sLen dLen)
    (hpos : 0 < cs.length → dp = some ⟨g, off, none⟩ ∧ ∃ ad, sp = some ad ∧ ∀ j v, cs[j]? = some v → w.cell? (ad.add j) = some v)
    (hfit : off + cs.length ≤ cur.length) (h1 : ∀ v ∈ cs, v.oneCell' = true) (w0 : World) (hb : w0.grownBy w (some g))
    (h : ∀ w', RowKit.Hid (w'.heap[g]? = some (.cells (splice cur off cs).toArray t (0, 0))) → w0.grownBy w' (some g) → K (a.put o.dst (goInt cs.length)) w') :
    if Region.wanted o (yielded ops a.tmps) = true then Oper.wp P o a w K Q else E := by
  have hw : Region.wanted o (yielded ops a.tmps) = true := by simp [Region.wanted, hgd]
  rw [if_pos hw]
  by_cases h0 : cs.length = 0
  · obtain rfl : cs = [] := List.eq_nil_of_length_eq_zero h0
    have hrun := run_copy_none (P := P) w dT sT o.type elem dp sp dLen dCap sLen sCap hu hsz (by simpa using hn.symm)
    unfold Oper.wp
    simp [execOp, ho, resolve, invoke, builtin, hd, hs, hrun, Result.andThen]
    exact h w (show _ = _ by simpa [splice] using hg) hb
  · obtain ⟨rfl, ad, rfl, hsrc⟩ := hpos (by omega)
    have hrun := run_copy_row (P := P) w dT sT o.type elem g off dLen dCap ad sLen sCap cur.toArray t cs hu hsz hg hn hsrc (by simpa using hfit) h1
    unfold Oper.wp
    simp [execOp, ho, resolve, invoke, builtin, hd, hs, hrun, Result.andThen]
    exact h _ (show _ = _ by simpa [splice] using setRow_heap w g _ _ t _ hg) (grown_setRow hb _)
set_option maxRecDepth 100000 in
set_option maxHeartbeats 3200000 in
theorem put_far (g : Nat) (rs : List Int) (s p c : Nat) (t d : List Int) (ao : Option Addr) (cap : Nat) (w : World) (h : RingAt w g rs s p c) (hI : RingIs rs s p c t) (hs : s ≤ 32768) (hr : Row w ao d) (hf : d.length ≤ cap) (hcap : cap ≤ maxLen) (hb : ∀ ad, ao = some ad → ad.block ≠ g) :
    Calls Tryz.prog 162 #[.pointer (some ⟨g, 0, none⟩), .slice ao d.length cap] w fun e w' => e = .returned (.tuple #[]) ∧ (∃ rs' p' c', RingAt w' g rs' s (p' : Nat) (c' : Nat) ∧ RingIs rs' s p' c' (lastN s (t ++ d))) ∧ w.grownBy w' (some g) := by
  obtain ⟨c0, c1, c2, fz⟩ := h.three
  have HR := hide1 hr
  have HI := hide1 hI
  have HH := hide1 h
  have hp := hI.place
  have hs0 := hI.pos
  have hglt := h.lt
  unfold maxLen at hcap
  clear hr h hI fz
  go_enter Tryz.func162, Tryz.ntmps162
  go_upto_region 0 with fail
  go_cut [1] from 5 to 14 (fun v wx => ∃ ao' cap', v = .slice ao' (lastN s d).length cap' ∧ Row wx ao' (lastN s d) ∧ wx = w ∧ (lastN s d).length ≤ cap' ∧ cap' ≤ 9223372036854775807 ∧ ∀ ad, ao' = some ad → ad.block ≠ g)
  case first =>
    go_wp2_with fail
    · have e : lastN s d = d := lastN_all (by omega)
      go_meet
      exact ⟨ao, 0, by rw [e], by rw [e]; exact HR.out, rfl, by rw [e]; omega, by omega, hb⟩
    · have e : lastN s d = d.drop (d.length - s) := rfl
      have el : (lastN s d).length = d.length - (d.length - s) := by rw [e, List.length_drop]
      go_meet
      refine ⟨_, _, by rw [el], HR.out.last (by omega), rfl, by omega, by omega, ?_⟩
      intro ad ea
      cases ao with
      | none => cases ea
      | some x =>
        simp only [Option.map_some, Option.some.injEq] at ea
        subst ea
        have := hb x rfl
        unfold Addr.add
        split <;> exact this
    · have e : lastN s d = d := lastN_all (by omega)
      go_meet
      exact ⟨ao, cap, by rw [e], by rw [e]; exact HR.out, rfl, by rw [e]; omega, by omega, hb⟩
  case rest =>
    obtain ⟨ao', cap', rfl, hrow, hw, hf', hc', hb'⟩ := hcut
    have hw' := hw.symm
    subst hw'
    clear hb HR hf hcap
    have hDl : (lastN s d).length ≤ s := by rw [lastN_len]; omega
    have HT := hide1 (lastN_app s t d)
    generalize hD : lastN s d = D at *
    have HDD := hide1 hD
    clear hD
    have HR := hide1 hrow
    clear hrow
    obtain ⟨X1, hX1⟩ : ∃ X1, X1 = (D.take (s - p)).map (Value.int .u8) := ⟨_, rfl⟩
    obtain ⟨k, hk⟩ : ∃ k, k = min (s - p) D.length := ⟨_, rfl⟩
    have hX1l : X1.length = k := by rw [hX1, hk]; simp
    have hk1 : k ≤ s - p := by omega
    have hkD : k ≤ D.length := by omega
    have hkd : D.drop k = D.drop (s - p) := by
      rw [hk]
      rcases Nat.le_total (s - p) D.length with h | h
      · rw [Nat.min_eq_left h]
      · rw [Nat.min_eq_right h, List.drop_eq_nil_of_le (Nat.le_refl _), List.drop_eq_nil_of_le h]
    have HKD := hide1 hkd
    have HK := hide1 hk
    clear hkd hk
    have HX1 := hide1 hX1
    clear hX1
    have hsl := run_room_ps g p s hp hs w.drew
    have P1 : Hid (0 < X1.length → some (⟨g, p, none⟩ : Addr) = some ⟨g, p, none⟩ ∧ ∃ ad, ao' = some ad ∧ ∀ j v, X1[j]? = some v → w.drew.cell? (ad.add j) = some v) := by
      intro h0
      refine ⟨rfl, ?_⟩
      rw [HX1.out] at h0 ⊢
      exact (HR.out.take (s - p)).first (by simpa using h0)
    have P2 : Hid (p + X1.length ≤ (rs.map (Value.int .u8) ++ [Value.int .i64 s, Value.int .i64 p, Value.int .i64 c]).length) := by
      show _ ≤ _
      rw [List.length_append, List.length_map, HH.out.len]; simp; omega
    have P3 : Hid (∀ v ∈ X1, v.oneCell' = true) := by
      show ∀ v ∈ X1, v.oneCell' = true
      rw [HX1.out]; exact ints_oneCell _ _
    go_upto_region 1 with fail
    go_cut [4] from 15 to 28 (fun v wx => v = .int .i64 (k : Nat) ∧ RingAt wx g (splice rs p (D.take (s - p))) s p c ∧ w.grownBy wx (some g))
    case first =>
      go_region_law (refine step_copy_far rfl (.tmp 26) (.tmp 27) 22 22 rfl 5 Tryz.underlying22 Tryz.size_u8 (some ⟨g, p, none⟩) ao' (s - p) (32768 - p) D.length cap' (by simp [Act.eval]) (by simp [Act.eval]) g p _ 225 HH.out.heap X1 (by rw [hX1l]; exact HK.out.trans (Nat.min_comm _ _)) P1.out P2.out P3.out w (gdrew w g) ?_; intro w4 hg4 hb4)
      all_goals
        have h4 : RingAt w4 g (splice rs p (D.take (s - p))) s p c := ring_splice HH.out (by simp; omega) (by have e := hg4.out; rw [HX1.out] at e; exact e)
        go_wp2_with fail
        go_meet
        exact ⟨rfl, h4, hb4⟩
    case rest =>
    obtain ⟨rfl, h4, hb4⟩ := hcut
    obtain ⟨w4, hw4⟩ : ∃ x, x = wc := ⟨_, rfl⟩
    subst hw4
    have HH4 := hide1 h4
    clear hsl P1 P2 P3 c0 c1 c2 HX1 hX1l h4 HH
    have hI4 := hide1 (HI.out.copies hDl)
    have HR4 := hide1 (HR.out.grown hb4 (fun ad e h => hb' ad e (by simpa using h)))
    obtain ⟨ao2, hE, hsl2, hrow2⟩ := run_cut ao' D cap' k hkD hf'
    have hs2 := hsl2 w4.drew
    have hsl := run_room_all g w4.drew
    obtain ⟨X2, hX2⟩ : ∃ X2, X2 = (D.drop (s - p)).map (Value.int .u8) := ⟨_, rfl⟩
    have hX2l : X2.length = D.length - k := by rw [hX2, List.length_map, ← HKD.out, List.length_drop]
    have HX2 := hide1 hX2
    have HRW := hide1 (hrow2 w4 HR4.out)
    clear hX2 hsl2 hrow2
    have P1 : Hid (0 < X2.length → some (⟨g, 0, none⟩ : Addr) = some ⟨g, 0, none⟩ ∧ ∃ ad, ao2 = some ad ∧ ∀ j v, X2[j]? = some v → w4.drew.cell? (ad.add j) = some v) := by
      intro h0
      refine ⟨rfl, ?_⟩
      rw [HX2.out, ← HKD.out] at h0 ⊢
      exact HRW.out.first (by simpa using h0)
    have P2 : Hid (0 + X2.length ≤ ((splice rs p (D.take (s - p))).map (Value.int .u8) ++ [Value.int .i64 s, Value.int .i64 p, Value.int .i64 c]).length) := by
      show _ ≤ _
      rw [List.length_append, List.length_map, HH4.out.len, hX2l]; simp; omega
    have P3 : Hid (∀ v ∈ X2, v.oneCell' = true) := by
      show ∀ v ∈ X2, v.oneCell' = true
      rw [HX2.out]; exact ints_oneCell _ _
    go_upto_region 2 with fail
    go_cut [4] from 29 to 36 (fun v wx => v = .int .i64 (k : Nat) ∧ RingAt wx g (splice (splice rs p (D.take (s - p))) 0 (D.drop (s - p))) s p c ∧ w.grownBy wx (some g))
    case first =>
      go_region_law (refine step_copy_far rfl (.tmp 32) (.tmp 35) 22 22 rfl 5 Tryz.underlying22 Tryz.size_u8 (some ⟨g, 0, none⟩) ao2 32768 32768 (D.length - k) (cap' - k) (by simp [Act.eval, Act.put]) (by simp [Act.eval, Act.put]) g 0 _ 225 HH4.out.heap X2 (by rw [hX2l]; exact (Nat.min_eq_left (by omega)).symm) P1.out P2.out P3.out w (grownBy_trans hb4 (gdrew _ g)) ?_; intro w5 hg5 hb5)
      all_goals
        have h5 : RingAt w5 g (splice (splice rs p (D.take (s - p))) 0 (D.drop (s - p))) s p c := ring_splice HH4.out (by simp; omega) (by have e := hg5.out; rw [HX2.out] at e; exact e)
        go_wp2_with fail
        go_meet
        exact ⟨rfl, h5, hb5⟩
    case rest =>
    obtain ⟨rfl, h5, hb5⟩ := hcut
    have hcs := HI.out.most
    have HM := hide1 (moveOn_any g _ s p c D.length wc h5 hs0 hs hp hcs hDl)
    clear h5 hsl hs2 P1 P2 P3 HX2 hX2l hE
    go_wp2_with fail
    refine Calls.mono HM.out ?_
    rintro e w6 ⟨rfl, h6, hg6, hz6⟩
    go_wp2_with fail
    go_end0
    refine ⟨rfl, ⟨_, _, _, h6, ?_⟩, ?_⟩
    · rw [← HT.out]
      exact hI4.out
    · exact grownBy_trans hb5 hg6
end Go.Proofs.YtbddkkfakkedaaaGreatDoor
namespace Go.Proofs.YtbddkkfakkedaaaGreatDoor
open Go.RowKit
attribute [local go_sem ↓] Go.wp_at_zero Go.wp_at_succ
set_option linter.unusedVariables false

set_option maxRecDepth 100000 in
set_option maxHeartbeats 6400000 in
theorem repeat_far (g s : Nat) (t : List Int) (dist n : Nat) (w : World) (h : RingT w g s t) (hs : s ≤ 32768) (hd0 : 1 ≤ dist) (hd : dist ≤ t.length) (hn0 : 1 ≤ n) (hn : n ≤ 258) :
    Calls Tryz.prog 188 #[.pointer (some ⟨g, 0, none⟩), .int .i64 dist, .int .i64 n] w fun e w' => e = .returned (.slice (some ⟨w.heap.size, 0, none⟩) n n) ∧ w'.ownsRow w.heap.size 5 1 (.slice (some ⟨w.heap.size, 0, none⟩) n n) n ((dataN t dist n).map (Value.int .u8)) ∧ RingT w' g s (lastN s (copyN t dist n)) ∧ w.grownBy w' (some g) := by
  obtain ⟨i0, hi, hz0, hz1, hz2⟩ := info_parts Tryz.info_u8
  have hm : n ≤ maxLen := by unfold maxLen; omega
  have HT := hide1 h
  have hglt : g < w.heap.size := by obtain ⟨_, _, _, h1, _⟩ := h; exact h1.lt
  have htl : t.length ≤ s := by obtain ⟨_, _, _, _, h1⟩ := h; have := h1.len; have := h1.most; omega
  clear h
  go_enter Tryz.func188, Tryz.ntmps188
  go_wp2_with (at_make; refine wpList_make_full _ rfl _ _ 22 rfl w.heap.size 5 i0 (.int .u8 0) 1 Tryz.underlying22 hi hz0 hz1 _ _ _ _ n rfl rfl rfl rfl (by rw [hz2]; omega) hm (Nat.le_refl _) ?_)
  intro w1 hown hgrow
  rw [toList_madeCells_one, ← List.map_replicate, ← filled_zero t dist n] at hown
  have hT1 : RingT w1 g s (lastN s (copyN t dist 0)) := by
    obtain ⟨rs, p, c, h1, h2⟩ := HT.out
    refine ⟨rs, p, c, h1.grown hgrow (by simp), ?_⟩
    rw [show copyN t dist 0 = t from rfl, lastN_all htl]
    exact h2
  have hB1 : w.grownBy w1 (some g) := ⟨hgrow.os, hgrow.tape, hgrow.output, hgrow.size, fun k hk _ => hgrow.block k hk (by simp)⟩
  clear hgrow HT
  go_wp2_with fail
  go_loopw [13] (fun i wr => ∃ k : Nat, k ≤ n ∧ i = .int .i64 k ∧ wr.ownsRow w.heap.size 5 1 (.slice (some ⟨w.heap.size, 0, none⟩) n n) n ((filled t dist n k).map (Value.int .u8)) ∧ RingT wr g s (lastN s (copyN t dist k)) ∧ w.grownBy wr (some g)) (fun i _ => n - (intOf i).toNat)
  case atStart => exact ⟨0, Nat.zero_le _, rfl, hown, hT1, hB1⟩
  case round =>
    clear hown hT1 hB1
    obtain ⟨k, hk, rfl, hown, ⟨rs, p, c, hA, hI⟩, hB⟩ := hrel
    by_cases hlt : k < n
    · have hp := hI.place
      have hs0 := hI.pos
      have hcl := hI.len
      have hcs := hI.most
      have hdc : dist ≤ c := by rw [← hcl, lastN_len, copyN_len]; omega
      have hbk := hI.back hd0 hdc
      rw [← hcl, last_back s _ dist (by omega) (by rw [copyN_len]; omega)] at hbk
      have hrl := hA.len
      obtain ⟨q, hq, hqs, htm⟩ := back_at s p dist hp hd0 (by omega)
      rw [← hq] at hbk
      generalize hx : rs.getD q 0 = x at *
      have cq := hA.byte (i := q) (by omega)
      rw [hx] at cq
      obtain ⟨c0, c1, c2, fz⟩ := hA.three
      have hfz := hown.frozenAt k
      obtain ⟨u, hcu⟩ : ∃ u, wr.cell? ⟨w.heap.size, k, none⟩ = some u := by
        rw [hown.cellAt k (by omega)]
        exact ⟨_, List.getElem?_eq_getElem (by simp [filled_len t dist n k hk]; exact hlt)⟩
      have hst := (hown.stored k (.int .u8 x)).1
      rw [filled_map t dist n k hlt x hbk] at hst
      have HA1 := hide1 (hA.grown (grownBy_setCell wr ⟨w.heap.size, k, none⟩ (.int .u8 x)) (by simp; omega))
      have HB1 := hide1 (grow_over hB (grownBy_setCell wr ⟨w.heap.size, k, none⟩ (.int .u8 x)) (by intro k e; simp at e; omega))
      have HS := hide1 hst
      have HI := hide1 hI
      have hqi : (q : Int) < 32768 := by omega
      have hki : (k : Int) < (n : Int) := by omega
      have HBK := hide1 hbk
      clear hown hst hA hB hI hq hx fz hcl hbk
      go_upto_region 5 with fail
      go_region
      have A2 : RingAt (wr.setCell ⟨w.heap.size, k, none⟩ (.int .u8 x)).drew g rs s p c := HA1.out.drewN 1
      have B2 : w.grownBy (wr.setCell ⟨w.heap.size, k, none⟩ (.int .u8 x)).drew (some g) := grownBy_trans HB1.out (gdrew _ g)
      have S2 := own_drew HS.out
      have hcx : (wr.setCell ⟨w.heap.size, k, none⟩ (.int .u8 x)).drew.cell? ⟨w.heap.size, k, none⟩ = some (.int .u8 x) := World.cell?_setCell_same _ _ _ hcu
      clear HA1 HB1 HS cq c0 c1 c2 hfz hcu htm hqi hqs
      generalize (wr.setCell ⟨w.heap.size, k, none⟩ (.int .u8 x)).drew = w2 at *
      obtain ⟨c0, c1, c2, fz⟩ := A2.three
      have cp := A2.byte (i := p) (by omega)
      have fp := fz p
      have hpi : (p : Int) < 32768 := by omega
      have A3 := A2.setByte (i := p) (by omega) x
      have hg3 : w2.grownBy (w2.setCell ⟨g, p, none⟩ (.int .u8 x)) (some g) := grownBy_setCell w2 ⟨g, p, none⟩ (.int .u8 x)
      have B3 := grownBy_trans B2 hg3
      have S3 := own_kept S2 hg3 (by omega)
      have HA3 : Hid (RingAt (w2.setCell ⟨g, p, none⟩ (.int .u8 x)).drew g (rs.set p x) s p c) := A3.drewN 1
      have HB3 : Hid (w.grownBy (w2.setCell ⟨g, p, none⟩ (.int .u8 x)).drew (some g)) := grownBy_trans B3 (gdrew _ g)
      have HS3 := hide1 (own_drew S3)
      clear A2 B2 S2 A3 hg3 B3 S3 fz
      go_upto_region 6 with fail
      go_region
      clear c0 c1 c2 cp fp hcx
      generalize (w2.setCell ⟨g, p, none⟩ (.int .u8 x)).drew = w3 at *
      have HM := hide1 (moveOn_any g (rs.set p x) s p c 1 w3 HA3.out hs0 hs hp hcs (by omega))
      go_wp2_with fail
      refine Calls.mono HM.out ?_
      rintro e w4 ⟨rfl, A4, hg4, hz4⟩
      have S4 := own_kept HS3.out hg4 (by omega)
      have B4 := grownBy_trans HB3.out hg4
      have I4 := HI.out.one x
      have eI : lastN s (copyN t dist k ++ [x]) = lastN s (copyN t dist (k + 1)) := by rw [HBK.out]; rfl
      rw [lastN_lastN, eI] at I4
      clear HM HA3 HB3 HS3 HI hg4 hz4
      go_wp2_with fail
      go_roundw
      case rel => exact ⟨k + 1, by omega, by go_num, S4, ⟨_, _, _, A4, I4⟩, B4⟩
      case measure => simp [intOf]; omega
    · have e : k = n := by omega
      subst e
      rw [filled_all] at hown
      go_wp2_with fail
      go_ret
      exact ⟨rfl, hown, ⟨rs, p, c, hA, hI⟩, hB⟩

end Go.Proofs.YtbddkkfakkedaaaGreatDoor
namespace Go.Proofs.YtbddkkfakkedaaaGreatDoor
open Go.RowKit
attribute [local go_sem ↓] Go.wp_at_zero Go.wp_at_succ
set_option linter.unusedVariables false

/-- A window that came back. -/
def ResW (B : Nat) (w : World) (e : Ending) (s : Int) (zs : List Int) : Prop :=
  ∃ ao cap, e = .returned (.agg #[.int .i64 s, .slice ao zs.length cap]) ∧ OwnsB 5 B w ao cap zs
theorem OwnsB.nothing (e B : Nat) (w : World) : OwnsB e B w none 0 [] := World.ownsRow_nil _ _ _ _
theorem ResW.zero (B : Nat) (w : World) : ResW B w (.returned (.agg #[.int .i64 0, .slice none 0 0])) 0 [] := ⟨none, 0, rfl, OwnsB.nothing _ _ _⟩
theorem vsz_out {s : Int} (h : vsz s = true) : ∃ n : Nat, s = n ∧ 0 < n ∧ n ≤ 32768 := by
  have := of_decide_eq_true h
  exact ⟨s.toNat, by omega, by omega, by omega⟩

theorem Row.lt_of {w : World} {ao : Option Addr} {zs : List Int} (h : Row w ao zs) (h0 : 0 < zs.length) : ∀ ad, ao = some ad → ad.block < w.heap.size := by
  intro ad e
  obtain ⟨b, off, e', hc⟩ := h 0 h0
  rw [e] at e'
  simp only [Option.some.injEq] at e'
  subst e'
  exact World.block_lt_of_cell? w _ hc
/-- A slice that may be handed on: its row, its room, its block. -/
structure Arg (w : World) (ao : Option Addr) (cap : Nat) (zs : List Int) : Prop where
  row : Row w ao zs
  fits : zs.length ≤ cap
  most : cap ≤ maxLen
  lies : ∀ ad, ao = some ad → ad.block < w.heap.size
  bare : ao = none → cap = 0
theorem Arg.below {w w' : World} {ao : Option Addr} {cap : Nat} {zs : List Int} (h : Arg w ao cap zs) (hb : Below w.heap.size w w') : Arg w' ao cap zs :=
  { h with row := h.row.below hb, lies := fun ad e => Nat.lt_of_lt_of_le (h.lies ad e) hb.size }
theorem Arg.under {w w' : World} {B : Nat} {ao : Option Addr} {cap : Nat} {zs : List Int} (h : Arg w ao cap zs) (hb : Below B w w') (hB : w.heap.size ≤ B) : Arg w' ao cap zs := h.below (hb.mono hB)
theorem Mine.arg {B : Nat} {w : World} {ao : Option Addr} {cap : Nat} {zs : List Int} (h : Mine B w ao cap zs) : Arg w ao cap zs :=
  ⟨h.row, h.fits, h.most, fun ad e => (h.lies ad e).2.1, h.bare⟩

end Go.Proofs.YtbddkkfakkedaaaGreatDoor
