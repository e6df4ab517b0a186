import Derived.Test.YtbddkkfakkedaaaGreatDoorMBB
import Derived.Test.YtbddkkfakkedaaaGreatDoorMBI
import Derived.Test.YtbddkkfakkedaaaGreatDoorMBO
namespace Go.Proofs.YtbddkkfakkedaaaGreatDoor
open Go.RowKit
variable {KH : Nat → Option Obj}
attribute [local go_sem ↓] Go.wp_at_zero Go.wp_at_succ
set_option linter.unusedVariables false

set_option maxRecDepth 100000 in
theorem newBlockCodes_any (ao bo : Option Addr) (ca cb : Nat) (ls ds : List Int) (w : World) (ha : Row64 w ao ls) (hb : Row64 w bo ds) (hl : ls.length ≤ 1048576) (hd : ds.length ≤ 1048576) :
    Calls Tryz.prog 127 #[.slice ao ls.length ca, .slice bo ds.length cb] w fun e w' => ∃ u, e = .returned (.pointer (some ⟨u, 0, none⟩)) ∧ BC w' u w.heap.size w'.heap.size ls ds ∧ Below w.heap.size w w' := by
  have H1 := hideM (icodes_any ao ca ls w ha hl)
  have H2 := hideM (fun W (hW : Below w.heap.size w W) => icodes_any bo cb ds W (hb.below hW) hd)
  clear ha hb
  go_enter Tryz.func127, Tryz.ntmps127
  go_wp2_with fail
  refine Calls.mono H1.out ?_
  rintro e w1 ⟨⟨co, cc, rfl, hR1⟩, hb1⟩
  have N1 := hideM (newTab_of ls co cc w1 hR1.reads)
  have L1 := hideM hb1
  clear hR1 hb1 H1
  go_wp2_with fail
  refine Calls.mono N1.out ?_
  rintro e w2 ⟨tl, Sl, ml, Ll, rfl, htl, hT2, hb2⟩
  have L2 := hideM (L1.out.trans (hb2.mono L1.out.size))
  have T2 := hideM hT2
  have HT2 : Hid (w.heap.size ≤ tl) := Nat.le_trans L1.out.size htl
  clear hT2 hb2 htl N1
  go_wp2_with fail
  refine Calls.mono (H2.out w2 L2.out) ?_
  rintro e w3 ⟨⟨co3, cc3, rfl, hR3⟩, hb3⟩
  have N3 := hideM (newTab_of ds co3 cc3 w3 hR3.reads)
  have L3 := hideM (L2.out.trans (hb3.mono L2.out.size))
  have T3 := hideM (T2.out.below hb3)
  clear hR3 hb3 H2 T2
  go_wp2_with fail
  refine Calls.mono N3.out ?_
  rintro e w4 ⟨td, Sd, md, Ld, rfl, htd, hT4, hb4⟩
  have L4 := hideM (L3.out.trans (hb4.mono L3.out.size))
  have T4 := hideM (T3.out.below hb4)
  have U4 := hideM hT4
  have HT4 : Hid (w.heap.size ≤ td) := Nat.le_trans L3.out.size htd
  clear hT4 hb4 htd N3 T3
  have ba : Below w4.heap.size w4 (w4.alloc (.cells #[.pointer (some ⟨tl, 0, none⟩), .pointer (some ⟨td, 0, none⟩)] 217)) := (Below.refl _ _).alloc (Nat.le_refl _) _
  have L5 := hideM (L4.out.trans (ba.mono L4.out.size))
  have BB : Hid (BC (w4.alloc (.cells #[.pointer (some ⟨tl, 0, none⟩), .pointer (some ⟨td, 0, none⟩)] 217)) w4.heap.size w.heap.size (w4.alloc (.cells #[.pointer (some ⟨tl, 0, none⟩), .pointer (some ⟨td, 0, none⟩)] 217)).heap.size ls ds) :=
    ⟨L4.out.size, by simp, Nat.le_refl _, _, tl, Sl, ml, Ll, td, Sd, md, Ld, rfl, fun _ _ _ => rfl, by simp [go_sem], by simp [go_sem], HT2.out, HT4.out, T4.out.below ba, U4.out.below ba⟩
  clear ba T4 U4 L1 L2 L3 L4
  go_wp2_with fail
  go_ret
  exact ⟨_, rfl, BB.out, L5.out⟩
set_option maxRecDepth 100000 in
theorem fixedDists_any (w : World) : Calls Tryz.prog 153 #[] w fun e w' => ∃ g cap, e = .returned (.slice (some ⟨g, 0, none⟩) F32.length cap) ∧ Row64 w' (some ⟨g, 0, none⟩) F32 ∧ Below w.heap.size w w' := by
  have ba : Below w.heap.size w (w.alloc (.cells #[.int .i64 5] 2)) := (Below.refl _ _).alloc (Nat.le_refl _) _
  have HR := hideM (repeat_one w.heap.size 0 1 32 5 (w.alloc (.cells #[.int .i64 5] 2)) (row1_new w 5 2) (by decide) (by decide))
  have HB := hideM ba
  have hl : F32.length = 32 := by decide
  rw [hl]
  clear ba hl
  go_enter Tryz.func153, Tryz.ntmps153
  go_wp2_with fail
  refine Calls.mono HR.out ?_
  rintro e w1 ⟨rfl, hB, hb⟩
  have hz : (w.alloc (.cells #[.int .i64 5] 2)).heap.size = w.heap.size + 1 := by simp
  have R1 : Hid (Row64 w1 (some ⟨w.heap.size + 1, 0, none⟩) F32) := by
    have := hB.row
    rw [hz] at this
    exact this
  have L1 := hideM (HB.out.trans (hb.mono HB.out.size))
  clear hB hb HR hz
  go_wp2_with fail
  go_ret
  exact ⟨_, _, rfl, R1.out, L1.out⟩
/-- Tables have been made. -/
theorem IMem.made {q p hB g s B : Nat} {zs : List Int} {aft : Value} {w w' : World} {c : IC} (h : IMem KH q p hB g s B zs aft w c) (hb : Below w.heap.size w w') : ∃ T', IRest KH q p hB g s B T' aft w' c ∧ (∀ v k, w'.cell? ⟨q, 26, none⟩ = some v → v.ownBlock = some k → ¬ T' k ∧ k ≠ g ∧ ∀ ao n cap, w'.cell? ⟨q, 30, none⟩ = some (.slice ao n cap) → blk ao ≠ some k) ∧ ∀ k, w.heap.size ≤ k → k < w'.heap.size → T' k := by
  obtain ⟨T, hR, h26⟩ := h.ex
  have hq := h.lm.lt
  have hp := h.lm.rd.lt
  have hbl := h.lm.hBlt
  have hgl : g < w.heap.size := by obtain ⟨rs, p, c, h1, _⟩ := hR.rg; exact h1.lt
  obtain ⟨g1, g2, g3, g4, g5, g6, g7⟩ := hR.ne
  have hc : ∀ o, w'.cell? ⟨q, o, none⟩ = w.cell? ⟨q, o, none⟩ := fun o => hb.cell (p := ⟨q, o, none⟩) hq
  have hk : IRest KH q p hB g s B T aft w' c := hR.keep hb.size (fun o _ => hc o) (fun k hk => hb.block k (hR.tlt k hk)) (hb.block g hgl) (fun ao n cap k e1 e2 => hb.block k (hR.at30 ao n cap k e1 e2).1)
  have no : ∀ k, k < w.heap.size → ¬ T k → ¬ (T k ∨ (w.heap.size ≤ k ∧ k < w'.heap.size)) := fun k h1 h2 h3 => by
    rcases h3 with h | h
    · exact h2 h
    · omega
  refine ⟨fun k => T k ∨ (w.heap.size ≤ k ∧ k < w'.heap.size), ?_, ?_, fun k h1 h2 => .inr ⟨h1, h2⟩⟩
  · refine { hk with ne := ⟨g1, g2, g3, no g hgl g4, no q hq g5, no p hp g6, no hB hbl g7⟩, tlt := ?_, o30 := ?_, c33 := ⟨hk.c33.1, fun e => ?_⟩, c34 := ⟨hk.c34.1, fun e1 e2 => ?_⟩, kz := fun k o e => ⟨.inl (hk.kz k o e).1, (hk.kz k o e).2⟩ }
    · intro k h1
      rcases h1 with h1 | h1
      · exact hk.tlt k h1
      · exact h1.2
    · obtain ⟨ao, cap, h1, h2, h4⟩ := hk.o30
      refine ⟨ao, cap, h1, h2, fun k e => ⟨no k (hR.at30 ao _ cap k ((hc 30).symm.trans h1) e).1 (h4 k e).1, (h4 k e).2⟩⟩
    · obtain ⟨u, lo, hi, h1, h2, h3⟩ := hk.c33.2 e
      exact ⟨u, lo, hi, h1, h2, fun k k1 k2 => .inl (h3 k k1 k2)⟩
    · obtain ⟨u, lo, hi, h1, h2, h3⟩ := hk.c34.2 e1 e2
      exact ⟨u, lo, hi, h1, h2, fun k k1 k2 => .inl (h3 k k1 k2)⟩
  · intro v k e1 e2
    rw [hc 26] at e1
    rw [hc 30]
    exact ⟨no k (h.lm.at26 v k e1 e2) (h26 v k e1 e2).1, (h26 v k e1 e2).2⟩
/-- The codes in use are laid. -/
theorem IRest.set34 {q p hB g s B : Nat} {T : Nat → Prop} {aft : Value} {w : World} {c : IC} (h : IRest KH q p hB g s B T aft w c) {u lo hi : Nat} {ls ds : List Int} (hBC : BC w u lo hi ls ds) (hT : ∀ k, lo ≤ k → k < hi → T k) : IRest KH q p hB g s B T aft (w.setCell ⟨q, 34, none⟩ (.pointer (some ⟨u, 0, none⟩))) { c with st := 12, ul := ls, ud := ds } := by
  have hg := grownBy_setCell w ⟨q, 34, none⟩ (.pointer (some ⟨u, 0, none⟩))
  have hc : ∀ o, o ≠ 34 → (w.setCell ⟨q, 34, none⟩ (.pointer (some ⟨u, 0, none⟩))).cell? ⟨q, o, none⟩ = w.cell? ⟨q, o, none⟩ := fun o ho => World.cell?_setCell_other _ _ _ _ (by first | (simp; done) | (simp; omega))
  obtain ⟨g1, g2, g3, g4, g5, g6, g7⟩ := h.ne
  have hgl : g < w.heap.size := by obtain ⟨rs, p, c, h1, _⟩ := h.rg; exact h1.lt
  have hb : ∀ k, k < w.heap.size → k ≠ q → (w.setCell ⟨q, 34, none⟩ (.pointer (some ⟨u, 0, none⟩))).heap[k]? = w.heap[k]? := fun k hk hne => hg.block k hk (by simp; exact hne)
  have hTb : ∀ k, T k → (w.setCell ⟨q, 34, none⟩ (.pointer (some ⟨u, 0, none⟩))).heap[k]? = w.heap[k]? := fun k hk => hb k (h.tlt k hk) (fun e => g5 (e ▸ hk))
  obtain ⟨old, h34⟩ := h.c34.1
  have k34 := World.cell?_setCell_same w ⟨q, 34, none⟩ (.pointer (some ⟨u, 0, none⟩)) h34
  refine ⟨h.ne, fun k hk => Nat.lt_of_lt_of_le (h.tlt k hk) hg.size, h.s0, h.rg.keep (hb g hgl g1), (hc 29 (by omega)).trans h.c29, ?_, (hc 31 (by omega)).trans h.c31, (hc 32 (by omega)).trans h.c32, ⟨fun e => (hc 33 (by omega)).trans (h.c33.1 e), fun e => ?_⟩, ⟨⟨_, k34⟩, fun _ _ => ⟨u, lo, hi, k34, hBC.keep (fun k k1 k2 => hTb k (hT k k1 k2)) hg.size, hT⟩⟩, (hc 35 (by omega)).trans h.c35, (hc 36 (by omega)).trans h.c36, (hc 37 (by omega)).trans h.c37, (hc 38 (by omega)).trans h.c38, fun k o e => ⟨(h.kz k o e).1, (hTb k (h.kz k o e).1).trans (h.kz k o e).2⟩⟩
  · obtain ⟨ao, cap, h1, h2, h4⟩ := h.o30
    exact ⟨ao, cap, (hc 30 (by omega)).trans h1, h2.keep (fun k e => hb k (h.at30 _ _ _ k h1 e).1 (h4 k e).2.2.1), h4⟩
  · obtain ⟨u', lo', hi', h1, h2, h3⟩ := h.c33.2 e
    exact ⟨u', lo', hi', (hc 33 (by omega)).trans h1, h2.keep (fun k k1 k2 => hTb k (h3 k k1 k2)) hg.size, h3⟩
/-- The fixed codes are laid. -/
theorem IRest.set33 {q p hB g s B : Nat} {T : Nat → Prop} {aft : Value} {w : World} {c : IC} (h : IRest KH q p hB g s B T aft w c) (hs : ¬ (12 ≤ c.st ∧ c.st ≤ 15)) {u lo hi : Nat} (h33 : ∃ old, w.cell? ⟨q, 33, none⟩ = some old) (hBC : BC w u lo hi F288 F32) (hT : ∀ k, lo ≤ k → k < hi → T k) : IRest KH q p hB g s B T aft (w.setCell ⟨q, 33, none⟩ (.pointer (some ⟨u, 0, none⟩))) { c with fx := true } := by
  have hg := grownBy_setCell w ⟨q, 33, none⟩ (.pointer (some ⟨u, 0, none⟩))
  have hc : ∀ o, o ≠ 33 → (w.setCell ⟨q, 33, none⟩ (.pointer (some ⟨u, 0, none⟩))).cell? ⟨q, o, none⟩ = w.cell? ⟨q, o, none⟩ := fun o ho => World.cell?_setCell_other _ _ _ _ (by first | (simp; done) | (simp; omega))
  obtain ⟨g1, g2, g3, g4, g5, g6, g7⟩ := h.ne
  have hgl : g < w.heap.size := by obtain ⟨rs, p, c, h1, _⟩ := h.rg; exact h1.lt
  have hb : ∀ k, k < w.heap.size → k ≠ q → (w.setCell ⟨q, 33, none⟩ (.pointer (some ⟨u, 0, none⟩))).heap[k]? = w.heap[k]? := fun k hk hne => hg.block k hk (by simp; exact hne)
  have hTb : ∀ k, T k → (w.setCell ⟨q, 33, none⟩ (.pointer (some ⟨u, 0, none⟩))).heap[k]? = w.heap[k]? := fun k hk => hb k (h.tlt k hk) (fun e => g5 (e ▸ hk))
  obtain ⟨old, h33⟩ := h33
  have k33 := World.cell?_setCell_same w ⟨q, 33, none⟩ (.pointer (some ⟨u, 0, none⟩)) h33
  refine ⟨h.ne, fun k hk => Nat.lt_of_lt_of_le (h.tlt k hk) hg.size, h.s0, h.rg.keep (hb g hgl g1), (hc 29 (by omega)).trans h.c29, ?_, (hc 31 (by omega)).trans h.c31, (hc 32 (by omega)).trans h.c32, ⟨(fun e => by cases e), fun _ => ⟨u, lo, hi, k33, hBC.keep (fun k k1 k2 => hTb k (hT k k1 k2)) hg.size, hT⟩⟩, ⟨?_, fun e1 e2 => absurd ⟨e1, e2⟩ hs⟩, (hc 35 (by omega)).trans h.c35, (hc 36 (by omega)).trans h.c36, (hc 37 (by omega)).trans h.c37, (hc 38 (by omega)).trans h.c38, fun k o e => ⟨(h.kz k o e).1, (hTb k (h.kz k o e).1).trans (h.kz k o e).2⟩⟩
  · obtain ⟨ao, cap, h1, h2, h4⟩ := h.o30
    exact ⟨ao, cap, (hc 30 (by omega)).trans h1, h2.keep (fun k e => hb k (h.at30 _ _ _ k h1 e).1 (h4 k e).2.2.1), h4⟩
  · obtain ⟨old, h1⟩ := h.c34.1
    exact ⟨old, (hc 34 (by omega)).trans h1⟩
/-- fixedCodes. -/
def fixedCodesS (c : IC) : IC ⊕ (Int × IC) := .inl { c with st := 12, fx := true, ul := F288, ud := F32 }
theorem eqln (w : World) (a : Addr) : Sem.run Tryz.prog (binOp BinOp.eql 71 (.pointer (some a)) (.pointer none)) w = .ok (.bool false) w := by kernel_rfl
theorem eqlnn (w : World) : Sem.run Tryz.prog (binOp BinOp.eql 71 (.pointer none) (.pointer none)) w = .ok (.bool true) w := by kernel_rfl
set_option maxRecDepth 100000 in
set_option maxHeartbeats 3200000 in
theorem fixedCodes_any (q p hB g s B : Nat) (zs : List Int) (aft : Value) (c : IC) (w : World) (hM : IMem KH q p hB g s B zs aft w c) (hs : c.st = 11) :
    Calls Tryz.prog 125 #[.pointer (some ⟨q, 0, none⟩)] w fun e w' => IPost KH q p hB g s B zs aft (fixedCodesS c) e w w' := by
  have hqw := hM.lt
  have HM := hideM hM
  obtain ⟨bs1, bs2, bs3, bs4⟩ := hM.bs
  obtain ⟨T, hR, h26⟩ := hM.ex
  have hlc : c.lc.st = 0 := hM.ls.2 (by omega)
  cases hfx : c.fx with
  | true =>
    obtain ⟨u, lo, hi, c33, hBC, hTk⟩ := hR.c33.2 hfx
    obtain ⟨old, c34⟩ := hR.c34.1
    have f34 := hM.lm.free 34
    have hR2 := hR.set34 hBC hTk
    have hg2 := grownBy_setCell w ⟨q, 34, none⟩ (.pointer (some ⟨u, 0, none⟩))
    have hc : ∀ o, o ≠ 34 → (w.setCell ⟨q, 34, none⟩ (.pointer (some ⟨u, 0, none⟩))).cell? ⟨q, o, none⟩ = w.cell? ⟨q, o, none⟩ := fun o ho => World.cell?_setCell_other _ _ _ _ (by first | (simp; done) | (simp; omega))
    have HF : Hid (IPost KH q p hB g s B zs aft (fixedCodesS c) (.returned (.tuple #[.func (Fn.func 129) #[.pointer (some ⟨q, 0, none⟩)] #[], .nilIface])) w (w.setCell ⟨q, 34, none⟩ (.pointer (some ⟨u, 0, none⟩)))) := by
      show IPost _ _ _ _ _ _ _ _ _ _ _ _ _
      unfold fixedCodesS
      refine IPost.ok rfl ⟨hM.lm.set29 34 (by omega) _, ⟨fun e => by dsimp only at e; omega, fun _ => hlc⟩, hM.bs, T, ?_, ?_⟩ ((Below.refl B w).grown hg2 (by omega) (fun k e => by simp at e; omega))
      · rw [← hfx]
        exact hR2
      · intro v k e1 e2
        rw [hc 26 (by omega)] at e1
        rw [hc 30 (by omega)]
        exact h26 v k e1 e2
    have heq := eqln
    clear hM hR hR2 hBC hTk hg2 hc h26 hfx HM
    go_enter Tryz.func125, Tryz.ntmps125
    go_wp2_with fail
    exact bodyPost_ret (v := .tuple #[.func (Fn.func 129) #[.pointer (some ⟨q, 0, none⟩)] #[], .nilIface]) (by simp [results, Tryz.results125, go_sem]) rfl HF.out
  | false =>
    have c33 := hR.c33.1 hfx
    have heq := eqlnn
    have HFX := hideM hfx
    have HS := hideM hs
    have FL := hideM (fixedLits_any w)
    clear hM hR h26 hfx hs
    go_enter Tryz.func125, Tryz.ntmps125
    go_wp2_with fail
    refine Calls.mono FL.out ?_
    rintro e w1 ⟨g1, cap1, rfl, ho1, hb1⟩
    have R1 := hideM (Row64.owned ho1)
    have L1 := hideM hb1
    have FD := hideM (fixedDists_any w1)
    clear ho1 hb1 FL
    obtain ⟨n1, hn1⟩ : ∃ n, F288.length = n := ⟨_, rfl⟩
    have HN1 := hideM hn1
    rw [hn1]
    clear hn1
    go_wp2_with fail
    refine Calls.mono FD.out ?_
    rintro e w2 ⟨g2, cap2, rfl, hr2, hb2⟩
    have R2 := hideM (R1.out.below hb2)
    have L2 := hideM (L1.out.trans (hb2.mono L1.out.size))
    have NB := hideM (newBlockCodes_any (some ⟨g1, 0, none⟩) (some ⟨g2, 0, none⟩) cap1 cap2 F288 F32 w2 R2.out hr2 (by rw [F288_len]; decide) (by decide))
    rw [HN1.out] at NB
    clear hr2 hb2 FD R1 L1 R2
    obtain ⟨n2, hn2⟩ : ∃ n, F32.length = n := ⟨_, rfl⟩
    rw [hn2] at NB ⊢
    clear hn2
    go_wp2_with fail
    refine Calls.mono NB.out ?_
    rintro e w3 ⟨u, rfl, hBC, hb3⟩
    have L3 := L2.out.trans (hb3.mono L2.out.size)
    have hM3 := HM.out.below L3
    obtain ⟨T3, hR3, h26, hTk⟩ := HM.out.made L3
    have hTk2 : ∀ k, w2.heap.size ≤ k → k < w3.heap.size → T3 k := fun k k1 k2 => hTk k (by have := L2.out.size; omega) k2
    have d33 : w3.cell? ⟨q, 33, none⟩ = some (.pointer none) := hR3.c33.1 HFX.out
    have hR4 := hR3.set33 (by have := HS.out; omega) ⟨_, d33⟩ hBC hTk2
    have f33 := hM3.lm.free 33
    have f34 := hM3.lm.free 34
    have hq3 := hM3.lt
    obtain ⟨old, d34⟩ := hR3.c34.1
    have hg4 := grownBy_setCell w3 ⟨q, 33, none⟩ (.pointer (some ⟨u, 0, none⟩))
    have hBC4 : BC (w3.setCell ⟨q, 33, none⟩ (.pointer (some ⟨u, 0, none⟩))) u w2.heap.size w3.heap.size F288 F32 := hBC.keep (fun k k1 k2 => hg4.block k k2 (by simp; have := L2.out.size; omega)) hg4.size
    have hR5 := hR4.set34 hBC4 hTk2
    have hg5 := grownBy_setCell (w3.setCell ⟨q, 33, none⟩ (.pointer (some ⟨u, 0, none⟩))) ⟨q, 34, none⟩ (.pointer (some ⟨u, 0, none⟩))
    have hc : ∀ o, o ≠ 33 → o ≠ 34 → ((w3.setCell ⟨q, 33, none⟩ (.pointer (some ⟨u, 0, none⟩))).setCell ⟨q, 34, none⟩ (.pointer (some ⟨u, 0, none⟩))).cell? ⟨q, o, none⟩ = w3.cell? ⟨q, o, none⟩ := fun o h1 h2 => (World.cell?_setCell_other _ _ _ _ (by first | (simp; done) | (simp; omega))).trans (World.cell?_setCell_other _ _ _ _ (by first | (simp; done) | (simp; omega)))
    have HF : Hid (IPost KH q p hB g s B zs aft (fixedCodesS c) (.returned (.tuple #[.func (Fn.func 129) #[.pointer (some ⟨q, 0, none⟩)] #[], .nilIface])) w ((w3.setCell ⟨q, 33, none⟩ (.pointer (some ⟨u, 0, none⟩))).setCell ⟨q, 34, none⟩ (.pointer (some ⟨u, 0, none⟩)))) := by
      show IPost _ _ _ _ _ _ _ _ _ _ _ _ _
      unfold fixedCodesS
      have z3 := L3.size
      have z4 := hg4.size
      refine IPost.ok rfl ⟨(hM3.lm.set29 33 (by omega) _).set29 34 (by omega) _, ⟨fun e => by dsimp only at e; omega, fun _ => hlc⟩, hM3.bs, T3, hR5, ?_⟩ (((L3.mono (by omega)).grown hg4 (by omega) (fun k e => by simp at e; omega)).grown hg5 (by omega) (fun k e => by simp at e; omega))
      intro v k e1 e2
      rw [hc 26 (by omega) (by omega)] at e1
      rw [hc 30 (by omega) (by omega)]
      exact h26 v k e1 e2
    clear hM3 hR3 h26 hTk hTk2 hR4 hR5 hBC hBC4 hg4 hg5 hc hb3 L3 NB HM
    go_wp2_with fail
    exact bodyPost_ret (v := .tuple #[.func (Fn.func 129) #[.pointer (some ⟨q, 0, none⟩)] #[], .nilIface]) (by simp [results, Tryz.results125, go_sem]) rfl HF.out
/-- dynamicCodes. -/
def dynamicCodesS (c : IC) : IC ⊕ (Int × IC) := .inl { c with st := 12, ul := c.lc.lens.take (c.lc.f 2).toNat, ud := c.lc.lens.drop (c.lc.f 2).toNat, lc := { c.lc with st := 0 } }
set_option maxRecDepth 100000 in
set_option maxHeartbeats 3200000 in
theorem dynamicCodes_any (q p hB g s B : Nat) (zs : List Int) (aft : Value) (c : IC) (w : World) (hM : IMem KH q p hB g s B zs aft w c) (hs : c.st = 6) (hW : LWell c.lc) (hlen : (c.lc.lens.length : Int) = c.lc.f 2 + c.lc.f 3) :
    Calls Tryz.prog 84 #[.pointer (some ⟨q, 0, none⟩)] w fun e w' => IPost KH q p hB g s B zs aft (dynamicCodesS c) e w w' := by
  have hqw := hM.lt
  have HM := hideM hM
  obtain ⟨bs1, bs2, bs3, bs4⟩ := hM.bs
  have hlc : c.lc.st = 6 := by rw [hM.ls.1 (by omega), hs]
  have hlit := hW.lit (by omega)
  have hdst := hW.dist (by omega)
  obtain ⟨l, hl2⟩ : ∃ l : Nat, c.lc.f 2 = (l : Int) := ⟨(c.lc.f 2).toNat, by omega⟩
  have hnum := hM.lm.num 2 (.inl ⟨by omega, by omega⟩)
  rw [hl2] at hnum hlit hlen
  obtain ⟨Bo, v, _, _, _, hBo, hc26, hown, _, _⟩ := hM.lm.own
  obtain ⟨ga, ca, rfl, hO⟩ := OwnsI.of hown
  obtain ⟨n, hn⟩ : ∃ n, c.lc.lens.length = n := ⟨_, rfl⟩
  obtain ⟨gx, rfl, hgB, hgw, hgc⟩ := hO.at (by omega)
  rw [hn] at hc26 hlen hgc
  have BO := hideM (both_any q gx n ca l w hc26 hnum (by omega) hgc (by omega))
  have HRA := hideM (hO.row.takeN l)
  have HRB := hideM (hO.row.dropN l)
  have HTA : Hid ((c.lc.lens.take l).length = l) := by show _ = _; rw [List.length_take]; omega
  have HTB : Hid ((c.lc.lens.drop l).length = n - l) := by show _ = _; rw [List.length_drop, hn]
  have HL2 : Hid ((c.lc.f 2).toNat = l) := by show _ = _; rw [hl2]; omega
  have hn600 : n ≤ 600 := by omega
  have hln : l ≤ 400 := by omega
  have HS := hideM hs
  clear hM hnum hc26 hown hO hlen hl2 hlc hn hlit hdst hW hs
  go_enter Tryz.func84, Tryz.ntmps84
  go_wp2_with fail
  refine Calls.mono BO.out ?_
  rintro e w1 ⟨rfl, hb1⟩
  have L1 := hideM hb1
  have NB := hideM (newBlockCodes_any (some ⟨gx, 0, none⟩) (some ⟨gx, l, none⟩) ca (ca - l) (c.lc.lens.take l) (c.lc.lens.drop l) w1 (HRA.out.below hb1) (HRB.out.below hb1) (by rw [HTA.out]; omega) (by rw [HTB.out]; omega))
  rw [HTA.out, HTB.out] at NB
  clear hb1 BO HRA HRB HTA HTB
  go_wp2_with fail
  refine Calls.mono NB.out ?_
  rintro e w3 ⟨u, rfl, hBC, hb3⟩
  have L3 := L1.out.trans (hb3.mono L1.out.size)
  have hM3 := HM.out.below L3
  obtain ⟨T3, hR3, h26, hTk⟩ := HM.out.made L3
  have hTk2 : ∀ k, w1.heap.size ≤ k → k < w3.heap.size → T3 k := fun k k1 k2 => hTk k (by have := L1.out.size; omega) k2
  have f34 := hM3.lm.free 34
  have hq3 := hM3.lt
  obtain ⟨old, d34⟩ := hR3.c34.1
  have hR5 := hR3.set34 hBC hTk2
  have hg5 := grownBy_setCell w3 ⟨q, 34, none⟩ (.pointer (some ⟨u, 0, none⟩))
  have hc : ∀ o, o ≠ 34 → (w3.setCell ⟨q, 34, none⟩ (.pointer (some ⟨u, 0, none⟩))).cell? ⟨q, o, none⟩ = w3.cell? ⟨q, o, none⟩ := fun o h2 => World.cell?_setCell_other _ _ _ _ (by first | (simp; done) | (simp; omega))
  have HF : Hid (IPost KH q p hB g s B zs aft (dynamicCodesS c) (.returned (.tuple #[.func (Fn.func 129) #[.pointer (some ⟨q, 0, none⟩)] #[], .nilIface])) w (w3.setCell ⟨q, 34, none⟩ (.pointer (some ⟨u, 0, none⟩)))) := by
    show IPost _ _ _ _ _ _ _ _ _ _ _ _ _
    unfold dynamicCodesS
    rw [HL2.out]
    have z3 := L3.size
    refine IPost.ok rfl ⟨(hM3.lm.set29 34 (by omega) _).at 0 (fun h => by omega) (fun h => by omega), ⟨fun e => by dsimp only at e; omega, fun _ => rfl⟩, hM3.bs, T3, { hR5 with }, ?_⟩ ((L3.mono (by omega)).grown hg5 (by omega) (fun k e => by simp at e; omega))
    intro v k e1 e2
    rw [hc 26 (by omega)] at e1
    rw [hc 30 (by omega)]
    exact h26 v k e1 e2
  clear hM3 hR3 h26 hTk hTk2 hR5 hBC hg5 hc hb3 L3 NB HM
  go_wp2_with fail
  exact bodyPost_ret (v := .tuple #[.func (Fn.func 129) #[.pointer (some ⟨q, 0, none⟩)] #[], .nilIface]) (by simp [results, Tryz.results84, go_sem]) rfl HF.out
end Go.Proofs.YtbddkkfakkedaaaGreatDoor
