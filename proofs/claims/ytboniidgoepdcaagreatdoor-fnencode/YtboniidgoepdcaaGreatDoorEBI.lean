import Derived.Test.YtboniidgoepdcaaGreatDoorEAJ
import Derived.Test.YtboniidgoepdcaaGreatDoorEBB
import Derived.Test.YtboniidgoepdcaaGreatDoorEBH
namespace Go.Proofs.YtboniidgoepdcaaGreatDoor
open Go.RowKit
attribute [local go_sem ↓] Go.wp_at_zero Go.wp_at_succ
set_option linter.unusedVariables false

set_option maxRecDepth 100000 in
set_option maxHeartbeats 6400000 in
theorem repeat_far (g s : Nat) (t : List Int) (dist n : Nat) (w : World) (h : RingT w g s t) (hs : s ≤ 32768) (hd0 : 1 ≤ dist) (hd : dist ≤ t.length) (hn0 : 1 ≤ n) (hn : n ≤ 258) :
    Calls Tryz.prog 98 #[.pointer (some ⟨g, 0, none⟩), .int .i64 dist, .int .i64 n] w fun e w' => e = .returned (.slice (some ⟨w.heap.size, 0, none⟩) n n) ∧ w'.ownsRow w.heap.size 5 1 (.slice (some ⟨w.heap.size, 0, none⟩) n n) n ((dataN t dist n).map (Value.int .u8)) ∧ RingT w' g s (lastN s (copyN t dist n)) ∧ w.grownBy w' (some g) := by
  obtain ⟨i0, hi, hz0, hz1, hz2⟩ := info_parts Tryz.info_u8
  have hm : n ≤ maxLen := by unfold maxLen; omega
  have HT := hide1 h
  have hglt : g < w.heap.size := by obtain ⟨_, _, _, h1, _⟩ := h; exact h1.lt
  have htl : t.length ≤ s := by obtain ⟨_, _, _, _, h1⟩ := h; have := h1.len; have := h1.most; omega
  clear h
  go_enter Tryz.func98, Tryz.ntmps98
  go_wp2_with (at_make; refine wpList_make_full _ rfl _ _ 22 rfl w.heap.size 5 i0 (.int .u8 0) 1 Tryz.underlying22 hi hz0 hz1 _ _ _ _ n rfl rfl rfl rfl (by rw [hz2]; omega) hm (Nat.le_refl _) ?_)
  intro w1 hown hgrow
  rw [toList_madeCells_one, ← List.map_replicate, ← filled_zero t dist n] at hown
  have hT1 : RingT w1 g s (lastN s (copyN t dist 0)) := by
    obtain ⟨rs, p, c, h1, h2⟩ := HT.out
    refine ⟨rs, p, c, h1.grown hgrow (by simp), ?_⟩
    rw [show copyN t dist 0 = t from rfl, lastN_all htl]
    exact h2
  have hB1 : w.grownBy w1 (some g) := ⟨hgrow.os, hgrow.tape, hgrow.output, hgrow.size, fun k hk _ => hgrow.block k hk (by simp)⟩
  clear hgrow HT
  go_wp2_with fail
  go_loopw [13] (fun i wr => ∃ k : Nat, k ≤ n ∧ i = .int .i64 k ∧ wr.ownsRow w.heap.size 5 1 (.slice (some ⟨w.heap.size, 0, none⟩) n n) n ((filled t dist n k).map (Value.int .u8)) ∧ RingT wr g s (lastN s (copyN t dist k)) ∧ w.grownBy wr (some g)) (fun i _ => n - (intOf i).toNat)
  case atStart => exact ⟨0, Nat.zero_le _, rfl, hown, hT1, hB1⟩
  case round =>
    clear hown hT1 hB1
    obtain ⟨k, hk, rfl, hown, ⟨rs, p, c, hA, hI⟩, hB⟩ := hrel
    by_cases hlt : k < n
    · have hp := hI.place
      have hs0 := hI.pos
      have hcl := hI.len
      have hcs := hI.most
      have hdc : dist ≤ c := by rw [← hcl, lastN_len, copyN_len]; omega
      have hbk := hI.back hd0 hdc
      rw [← hcl, last_back s _ dist (by omega) (by rw [copyN_len]; omega)] at hbk
      have hrl := hA.len
      obtain ⟨q, hq, hqs, htm⟩ := back_at s p dist hp hd0 (by omega)
      rw [← hq] at hbk
      generalize hx : rs.getD q 0 = x at *
      have cq := hA.byte (i := q) (by omega)
      rw [hx] at cq
      obtain ⟨c0, c1, c2, fz⟩ := hA.three
      have hfz := hown.frozenAt k
      obtain ⟨u, hcu⟩ : ∃ u, wr.cell? ⟨w.heap.size, k, none⟩ = some u := by
        rw [hown.cellAt k (by omega)]
        exact ⟨_, List.getElem?_eq_getElem (by simp [filled_len t dist n k hk]; exact hlt)⟩
      have hst := (hown.stored k (.int .u8 x)).1
      rw [filled_map t dist n k hlt x hbk] at hst
      have HA1 := hide1 (hA.grown (grownBy_setCell wr ⟨w.heap.size, k, none⟩ (.int .u8 x)) (by simp; omega))
      have HB1 := hide1 (grow_over hB (grownBy_setCell wr ⟨w.heap.size, k, none⟩ (.int .u8 x)) (by intro k e; simp at e; omega))
      have HS := hide1 hst
      have HI := hide1 hI
      have hqi : (q : Int) < 32768 := by omega
      have hki : (k : Int) < (n : Int) := by omega
      have HBK := hide1 hbk
      clear hown hst hA hB hI hq hx fz hcl hbk
      go_upto_region 5 with fail
      go_region
      have A2 : RingAt (wr.setCell ⟨w.heap.size, k, none⟩ (.int .u8 x)).drew g rs s p c := HA1.out.drewN 1
      have B2 : w.grownBy (wr.setCell ⟨w.heap.size, k, none⟩ (.int .u8 x)).drew (some g) := grownBy_trans HB1.out (gdrew _ g)
      have S2 := own_drew HS.out
      have hcx : (wr.setCell ⟨w.heap.size, k, none⟩ (.int .u8 x)).drew.cell? ⟨w.heap.size, k, none⟩ = some (.int .u8 x) := World.cell?_setCell_same _ _ _ hcu
      clear HA1 HB1 HS cq c0 c1 c2 hfz hcu htm hqi hqs
      generalize (wr.setCell ⟨w.heap.size, k, none⟩ (.int .u8 x)).drew = w2 at *
      obtain ⟨c0, c1, c2, fz⟩ := A2.three
      have cp := A2.byte (i := p) (by omega)
      have fp := fz p
      have hpi : (p : Int) < 32768 := by omega
      have A3 := A2.setByte (i := p) (by omega) x
      have hg3 : w2.grownBy (w2.setCell ⟨g, p, none⟩ (.int .u8 x)) (some g) := grownBy_setCell w2 ⟨g, p, none⟩ (.int .u8 x)
      have B3 := grownBy_trans B2 hg3
      have S3 := own_kept S2 hg3 (by omega)
      have HA3 : Hid (RingAt (w2.setCell ⟨g, p, none⟩ (.int .u8 x)).drew g (rs.set p x) s p c) := A3.drewN 1
      have HB3 : Hid (w.grownBy (w2.setCell ⟨g, p, none⟩ (.int .u8 x)).drew (some g)) := grownBy_trans B3 (gdrew _ g)
      have HS3 := hide1 (own_drew S3)
      clear A2 B2 S2 A3 hg3 B3 S3 fz
      go_upto_region 6 with fail
      go_region
      clear c0 c1 c2 cp fp hcx
      generalize (w2.setCell ⟨g, p, none⟩ (.int .u8 x)).drew = w3 at *
      have HM := hide1 (moveOn_any g (rs.set p x) s p c 1 w3 HA3.out hs0 hs hp hcs (by omega))
      go_wp2_with fail
      refine Calls.mono HM.out ?_
      rintro e w4 ⟨rfl, A4, hg4, hz4⟩
      have S4 := own_kept HS3.out hg4 (by omega)
      have B4 := grownBy_trans HB3.out hg4
      have I4 := HI.out.one x
      have eI : lastN s (copyN t dist k ++ [x]) = lastN s (copyN t dist (k + 1)) := by rw [HBK.out]; rfl
      rw [lastN_lastN, eI] at I4
      clear HM HA3 HB3 HS3 HI hg4 hz4
      go_wp2_with fail
      go_roundw
      case rel => exact ⟨k + 1, by omega, by go_num, S4, ⟨_, _, _, A4, I4⟩, B4⟩
      case measure => simp [intOf]; omega
    · have e : k = n := by omega
      subst e
      rw [filled_all] at hown
      go_wp2_with fail
      go_ret
      exact ⟨rfl, hown, ⟨rs, p, c, hA, hI⟩, hB⟩

end Go.Proofs.YtboniidgoepdcaaGreatDoor
namespace Go.Proofs.YtboniidgoepdcaaGreatDoor
open Go.RowKit
attribute [local go_sem ↓] Go.wp_at_zero Go.wp_at_succ
set_option linter.unusedVariables false

/-- Where an inflater stands: its state's number (0 to 5 those of the lengths, 6 dynamicCodes, 7 blockHead, 8 blockEnd, 9 storedHead, 10 storedBytes, 11 fixedCodes, 12 literal, 13 copyLength, 14 distance, 15 copyDistance, 16 behind the end), the machine for lengths, the window, what was told, and its numbers. -/
structure IC where
  st : Nat
  lc : LC
  t : List Int
  out : List Int
  last : Bool
  stored : Nat
  fx : Bool
  ul : List Int
  ud : List Int
  base : Nat
  extra : Nat
  len : Nat
def ifn (s : Nat) : Nat := if s ≤ 5 then lfn s else if s = 6 then 32 else if s = 7 then 31 else if s = 8 then 68 else if s = 9 then 46 else if s = 10 then 62 else if s = 11 then 47 else if s = 12 then 51 else if s = 13 then 70 else if s = 14 then 83 else 92
/-- The next state as a value. -/
def inow (q : Nat) (aft : Value) (s : Nat) : Value := if s ≤ 15 then .func (Fn.func (ifn s)) #[.pointer (some ⟨q, 0, none⟩)] #[] else aft
/-- The two tables of a block's codes, in the blocks from lo up to hi. -/
structure BC (w : World) (u lo hi : Nat) (ls ds : List Int) : Prop where
  ge : lo ≤ u
  lt : u < hi
  le : hi ≤ w.heap.size
  tabs : ∃ w0 tl Sl ml Ll td Sd md Ld, w0.heap.size = hi ∧ (∀ k, lo ≤ k → k < hi → w.heap[k]? = w0.heap[k]?) ∧ w0.cell? ⟨u, 0, none⟩ = some (.pointer (some ⟨tl, 0, none⟩)) ∧ w0.cell? ⟨u, 1, none⟩ = some (.pointer (some ⟨td, 0, none⟩)) ∧ lo ≤ tl ∧ lo ≤ td ∧ TabOf ls w0 tl Sl ml Ll ∧ TabOf ds w0 td Sd md Ld
theorem BC.keep {w w' : World} {u lo hi : Nat} {ls ds : List Int} (h : BC w u lo hi ls ds) (hk : ∀ k, lo ≤ k → k < hi → w'.heap[k]? = w.heap[k]?) (hs : w.heap.size ≤ w'.heap.size) : BC w' u lo hi ls ds := by
  obtain ⟨w0, tl, Sl, ml, Ll, td, Sd, md, Ld, h1, h2, h3⟩ := h.tabs
  exact ⟨h.ge, h.lt, Nat.le_trans h.le hs, w0, tl, Sl, ml, Ll, td, Sd, md, Ld, h1, fun k k1 k2 => (hk k k1 k2).trans (h2 k k1 k2), h3⟩
/-- What the tables are by the memory as it stands. -/
theorem BC.now {w : World} {u lo hi : Nat} {ls ds : List Int} (h : BC w u lo hi ls ds) : ∃ tl Sl ml Ll td Sd md Ld, w.cell? ⟨u, 0, none⟩ = some (.pointer (some ⟨tl, 0, none⟩)) ∧ w.cell? ⟨u, 1, none⟩ = some (.pointer (some ⟨td, 0, none⟩)) ∧ TabOf ls w tl Sl ml Ll ∧ TabOf ds w td Sd md Ld := by
  obtain ⟨w0, tl, Sl, ml, Ll, td, Sd, md, Ld, h1, h2, h3, h4, h5, h6, h7, h8⟩ := h.tabs
  have hb := h2 u h.ge h.lt
  have hs : w0.heap.size ≤ w.heap.size := by rw [h1]; exact h.le
  refine ⟨tl, Sl, ml, Ll, td, Sd, md, Ld, (World.cell?_of_block (w := w0) (a := ⟨u, 0, none⟩) hb).trans h3, (World.cell?_of_block (w := w0) (a := ⟨u, 1, none⟩) hb).trans h4, h7.same (fun k k1 k2 => h2 k (by omega) (by omega)) hs, h8.same (fun k k1 k2 => h2 k (by omega) (by omega)) hs⟩
/-- The fixed lengths. -/
def F32 : List Int := List.replicate 32 5
/-- The inflater's own part of the memory; T: the blocks of the tables. -/
structure IRest (q p hB g s B : Nat) (T : Nat → Prop) (aft : Value) (w : World) (c : IC) : Prop where
  ne : g ≠ q ∧ g ≠ p ∧ g ≠ hB ∧ ¬ T g ∧ ¬ T q ∧ ¬ T p ∧ ¬ T hB
  tlt : ∀ k, T k → k < w.heap.size
  s0 : 0 < s ∧ s ≤ 32768
  rg : RingT w g s c.t
  c29 : w.cell? ⟨q, 29, none⟩ = some (.pointer (some ⟨g, 0, none⟩))
  o30 : ∃ ao cap, w.cell? ⟨q, 30, none⟩ = some (.slice ao c.out.length cap) ∧ OwnsB 5 B w ao cap c.out ∧ ∀ k, blk ao = some k → ¬ T k ∧ k ≠ g ∧ k ≠ q ∧ k ≠ p ∧ k ≠ hB
  c31 : w.cell? ⟨q, 31, none⟩ = some (.bool c.last)
  c32 : w.cell? ⟨q, 32, none⟩ = some (.int .i64 (c.stored : Nat))
  c33 : (c.fx = false → w.cell? ⟨q, 33, none⟩ = some (.pointer none)) ∧ (c.fx = true → ∃ u lo hi, w.cell? ⟨q, 33, none⟩ = some (.pointer (some ⟨u, 0, none⟩)) ∧ BC w u lo hi F288 F32 ∧ ∀ k, lo ≤ k → k < hi → T k)
  c34 : (∃ old, w.cell? ⟨q, 34, none⟩ = some old) ∧ (12 ≤ c.st → c.st ≤ 15 → ∃ u lo hi, w.cell? ⟨q, 34, none⟩ = some (.pointer (some ⟨u, 0, none⟩)) ∧ BC w u lo hi c.ul c.ud ∧ ∀ k, lo ≤ k → k < hi → T k)
  c35 : w.cell? ⟨q, 35, none⟩ = some (.int .i64 (c.base : Nat))
  c36 : w.cell? ⟨q, 36, none⟩ = some (.int .i64 (c.extra : Nat))
  c37 : w.cell? ⟨q, 37, none⟩ = some (.int .i64 (c.len : Nat))
  c38 : w.cell? ⟨q, 38, none⟩ = some aft
/-- The inflater's memory. -/
structure IMem (q p hB g s B : Nat) (zs : List Int) (aft : Value) (w : World) (c : IC) : Prop where
  lm : LMem q p hB zs (inow q aft 6) w c.lc
  ls : (c.st ≤ 6 → c.lc.st = c.st) ∧ (7 ≤ c.st → c.lc.st = 0)
  bs : 2 ≤ B ∧ B ≤ q ∧ B ≤ p ∧ B ≤ g
  ex : ∃ T, IRest q p hB g s B T aft w c ∧ ∀ v k, w.cell? ⟨q, 26, none⟩ = some v → v.ownBlock = some k → ¬ T k ∧ k ≠ g ∧ ∀ ao n cap, w.cell? ⟨q, 30, none⟩ = some (.slice ao n cap) → blk ao ≠ some k
theorem RingT.keep {w w' : World} {g s : Nat} {t : List Int} (h : RingT w g s t) (hb : w'.heap[g]? = w.heap[g]?) : RingT w' g s t := by
  obtain ⟨rs, p, c, h1, h2⟩ := h
  exact ⟨rs, p, c, ⟨hb.trans h1.heap, h1.len⟩, h2⟩
theorem OwnsB.keep {e B : Nat} {w w' : World} {ao : Option Addr} {cap : Nat} {zs : List Int} (h : OwnsB e B w ao cap zs) (hb : ∀ k, blk ao = some k → w'.heap[k]? = w.heap[k]?) : OwnsB e B w' ao cap zs := by
  refine ⟨h.1, ?_⟩
  rcases h.2 with h2 | ⟨g, c, cur, h3, h4, h5, h6⟩
  · exact .inl h2
  · refine .inr ⟨g, c, cur, h3, h4, ?_, h6⟩
    rw [hb g ?_]
    · exact h5
    · simp only [Value.slice.injEq] at h3
      rw [h3.1]
      rfl
/-- The own part stays where its blocks and cells stay. -/
theorem IRest.keep {q p hB g s B : Nat} {T : Nat → Prop} {aft : Value} {w w' : World} {c : IC} (h : IRest q p hB g s B T aft w c) (hs : w.heap.size ≤ w'.heap.size) (hc : ∀ o, 29 ≤ o → w'.cell? ⟨q, o, none⟩ = w.cell? ⟨q, o, none⟩)
    (ht : ∀ k, T k → w'.heap[k]? = w.heap[k]?) (hg : w'.heap[g]? = w.heap[g]?) (ho : ∀ ao n cap k, w.cell? ⟨q, 30, none⟩ = some (.slice ao n cap) → blk ao = some k → w'.heap[k]? = w.heap[k]?) : IRest q p hB g s B T aft w' c := by
  refine ⟨h.ne, fun k hk => Nat.lt_of_lt_of_le (h.tlt k hk) hs, h.s0, h.rg.keep hg, (hc 29 (by omega)).trans h.c29, ?_, (hc 31 (by omega)).trans h.c31, (hc 32 (by omega)).trans h.c32, ⟨fun e => (hc 33 (by omega)).trans (h.c33.1 e), fun e => ?_⟩, ⟨?_, fun e1 e2 => ?_⟩, (hc 35 (by omega)).trans h.c35, (hc 36 (by omega)).trans h.c36, (hc 37 (by omega)).trans h.c37, (hc 38 (by omega)).trans h.c38⟩
  · obtain ⟨ao, cap, h1, h2, h4⟩ := h.o30
    exact ⟨ao, cap, (hc 30 (by omega)).trans h1, h2.keep (fun k e => ho ao _ cap k h1 e), h4⟩
  · obtain ⟨u, lo, hi, h1, h2, h3⟩ := h.c33.2 e
    exact ⟨u, lo, hi, (hc 33 (by omega)).trans h1, h2.keep (fun k k1 k2 => ht k (h3 k k1 k2)) hs, h3⟩
  · obtain ⟨old, h1⟩ := h.c34.1
    exact ⟨old, (hc 34 (by omega)).trans h1⟩
  · obtain ⟨u, lo, hi, h1, h2, h3⟩ := h.c34.2 e1 e2
    exact ⟨u, lo, hi, (hc 34 (by omega)).trans h1, h2.keep (fun k k1 k2 => ht k (h3 k k1 k2)) hs, h3⟩
theorem IRest.at30 {q p hB g s B : Nat} {T : Nat → Prop} {aft : Value} {w : World} {c : IC} (hr : IRest q p hB g s B T aft w c) : ∀ ao n cap k, w.cell? ⟨q, 30, none⟩ = some (.slice ao n cap) → blk ao = some k → k < w.heap.size ∧ ¬ T k ∧ k ≠ g ∧ k ≠ q ∧ k ≠ p ∧ k ≠ hB := by
  intro ao n cap k e1 e2
  obtain ⟨ao', cap', h1, h2, h4⟩ := hr.o30
  rw [h1] at e1
  simp only [Option.some.injEq, Value.slice.injEq] at e1
  obtain ⟨rfl, _, rfl⟩ := e1
  refine ⟨?_, h4 k e2⟩
  rcases h2.2 with ⟨h5, _⟩ | ⟨g', cap'', cur, h5, _, h6, _⟩
  · simp only [Value.slice.injEq] at h5
    rw [h5.1] at e2
    cases e2
  · simp only [Value.slice.injEq] at h5
    rw [h5.1] at e2
    simp [blk] at e2
    subst e2
    exact (Array.getElem?_eq_some_iff.1 h6).1
/-- A step of the machine for lengths. -/
theorem IMem.trod {q p hB g s B : Nat} {zs : List Int} {aft : Value} {w w' : World} {c : IC} {c' : LC} (h : IMem q p hB g s B zs aft w c) (hT : Trod q p w w') (hM : LMem q p hB zs (inow q aft 6) w' c') (n : Nat) (hn : n ≤ 6 ∨ 16 ≤ n) (hl : (n ≤ 6 → c'.st = n) ∧ (7 ≤ n → c'.st = 0)) :
    IMem q p hB g s B zs aft w' { c with st := n, lc := c' } := by
  obtain ⟨T, hr, h26⟩ := h.ex
  have hg : g < w.heap.size := by obtain ⟨rs, p, c, h1, _⟩ := hr.rg; exact h1.lt
  obtain ⟨g1, g2, g3, g4, g5, g6, g7⟩ := hr.ne
  have hq : q < w.heap.size := h.lm.lt
  have ho30 := hr.at30
  have hkeep : IRest q p hB g s B T aft w' c := by
    refine hr.keep hT.size hT.rest ?_ ?_ ?_
    · intro k hk
      exact hT.block k (hr.tlt k hk) (fun e => g5 (e ▸ hk)) (fun e => g6 (e ▸ hk)) (fun v hv e => (h26 v k hv e).1 hk)
    · exact hT.block g hg g1 g2 (fun v hv e => (h26 v g hv e).2.1 rfl)
    · intro ao n cap k e1 e2
      obtain ⟨x1, x2, x3, x4, x5, x6⟩ := ho30 ao n cap k e1 e2
      exact hT.block k x1 x4 x5 (fun v hv e => (h26 v k hv e).2.2 ao n cap e1 e2)
  refine ⟨hM, hl, h.bs, T, ?_, ?_⟩
  · exact { hkeep with c34 := ⟨hkeep.c34.1, fun e1 e2 => by dsimp only at e1 e2; omega⟩ }
  · intro v k hv e
    have h30 := hT.rest 30 (by omega)
    rcases hT.own v k hv e with h1 | ⟨v0, h1, h2⟩
    · refine ⟨fun hk => by have := hr.tlt k hk; omega, by omega, fun ao n cap e1 e2 => ?_⟩
      rw [h30] at e1
      have := (ho30 ao n cap k e1 e2).1
      omega
    · obtain ⟨x1, x2, x3⟩ := h26 v0 k h1 h2
      refine ⟨x1, x2, fun ao n cap e1 => ?_⟩
      rw [h30] at e1
      exact x3 ao n cap e1
end Go.Proofs.YtboniidgoepdcaaGreatDoor
