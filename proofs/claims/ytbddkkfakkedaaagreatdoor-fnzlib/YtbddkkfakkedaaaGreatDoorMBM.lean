import Derived.Deep.AppendLies
import Derived.Test.YtbddkkfakkedaaaGreatDoorMBL
namespace Go.Proofs.YtbddkkfakkedaaaGreatDoor
open Go.RowKit
variable {KH : Nat → Option Obj}
attribute [local go_sem ↓] Go.wp_at_zero Go.wp_at_succ
set_option linter.unusedVariables false

theorem LMem.at26 {q p hB : Nat} {zs : List Int} {rdy : Value} {w : World} {c : LC} (h : LMem q p hB zs rdy w c) : ∀ v k, w.cell? ⟨q, 26, none⟩ = some v → v.ownBlock = some k → k < w.heap.size := by
  intro v k e1 e2
  obtain ⟨B, u, b1, b2, b3, b4, b5, b6, b7, b8⟩ := h.own
  rw [b5] at e1
  cases e1
  obtain ⟨_, hx⟩ := b6
  rcases hx with ⟨rfl, _⟩ | ⟨g, cap, cur, rfl, hb, hh, _⟩
  · cases e2
  · simp [Value.ownBlock] at e2
    subst e2
    exact (Array.getElem?_eq_some_iff.1 hh).1
theorem LMem.hBlt {q p hB : Nat} {zs : List Int} {rdy : Value} {w : World} {c : LC} (h : LMem q p hB zs rdy w c) : hB < w.heap.size := by
  obtain ⟨B, u, b1, b2, b3, b4, b5, b6, b7, b8⟩ := h.own
  omega
/-- Bytes have been told: what was told and the window have grown. -/
theorem IMem.told {q p hB g s B : Nat} {zs : List Int} {aft : Value} {w w1 w3 : World} {c : IC} (h : IMem KH q p hB g s B zs aft w c) (h7 : 7 ≤ c.st) {ao ao' : Option Addr} {n cap cap' : Nat} {out' t' : List Int} (h30 : w.cell? ⟨q, 30, none⟩ = some (.slice ao n cap))
    (ho' : OwnsB 5 B w1 ao' cap' out') (hg1 : w.grownBy w1 (blk ao)) (hat : blk ao' = blk ao ∨ blk ao' = some w.heap.size) (hg3 : (w1.setCell ⟨q, 30, none⟩ (.slice ao' out'.length cap')).grownBy w3 (some g)) (hr : RingT w3 g s t') :
    IMem KH q p hB g s B zs aft w3 { c with out := out', t := t' } ∧ Below B w w3 := by
  obtain ⟨T, hR, h26⟩ := h.ex
  obtain ⟨g1, g2, g3, g4, g5, g6, g7⟩ := hR.ne
  have hq := h.lm.lt
  have hp := h.lm.rd.lt
  have hb := h.lm.hBlt
  have hgl : g < w.heap.size := by obtain ⟨rs, p, c, h1, _⟩ := hR.rg; exact h1.lt
  have hst : c.lc.st = 0 := h.ls.2 h7
  obtain ⟨bs1, bs2, bs3, bs4⟩ := h.bs
  have ha : ∀ k, blk ao = some k → k < w.heap.size ∧ ¬ T k ∧ k ≠ g ∧ k ≠ q ∧ k ≠ p ∧ k ≠ hB := fun k e => hR.at30 ao n cap k h30 e
  have hab : ∀ k, blk ao = some k → B ≤ k := by
    intro k e
    obtain ⟨ao2, cap2, h1, h2, _⟩ := hR.o30
    rw [h1] at h30
    simp only [Option.some.injEq, Value.slice.injEq] at h30
    obtain ⟨rfl, _, _⟩ := h30
    rcases h2.2 with ⟨h5, _⟩ | ⟨g', cap'', cur, h5, h6, _⟩
    · simp only [Value.slice.injEq] at h5
      rw [h5.1] at e
      cases e
    · simp only [Value.slice.injEq] at h5
      rw [h5.1] at e
      simp [blk] at e
      omega
  have ha' : ∀ k, blk ao' = some k → ¬ T k ∧ k ≠ g ∧ k ≠ q ∧ k ≠ p ∧ k ≠ hB := by
    intro k e
    rcases hat with h1 | h1
    · exact (ha k (h1 ▸ e)).2
    · rw [h1] at e
      cases e
      exact ⟨fun hk => by have := hR.tlt _ hk; omega, by omega, by omega, by omega, by omega⟩
  have hx : ∀ k, blk ao' = some k → k = w.heap.size ∨ blk ao = some k := by
    intro k e
    rcases hat with h1 | h1
    · exact .inr (h1 ▸ e)
    · rw [h1] at e; cases e; exact .inl rfl
  -- the worlds
  have hg2 := grownBy_setCell w1 ⟨q, 30, none⟩ (.slice ao' out'.length cap')
  have z1 := hg1.size
  have z2 := hg2.size
  have z3 := hg3.size
  have hq1 : w1.heap[q]? = w.heap[q]? := hg1.block q hq (fun e => (ha q e.symm).2.2.2.1 rfl)
  have hc1 : ∀ o, w1.cell? ⟨q, o, none⟩ = w.cell? ⟨q, o, none⟩ := fun o => World.cell?_of_block (w := w) (a := ⟨q, o, none⟩) hq1
  have hc2 : ∀ o, o ≠ 30 → (w1.setCell ⟨q, 30, none⟩ (.slice ao' out'.length cap')).cell? ⟨q, o, none⟩ = w.cell? ⟨q, o, none⟩ := fun o ho => (World.cell?_setCell_other _ _ _ _ (by first | (simp; done) | (simp; omega))).trans (hc1 o)
  have hq3 : w3.heap[q]? = (w1.setCell ⟨q, 30, none⟩ (.slice ao' out'.length cap')).heap[q]? := hg3.block q (by omega) (fun e => g1 (by cases e; rfl))
  have hc3 : ∀ o, w3.cell? ⟨q, o, none⟩ = (w1.setCell ⟨q, 30, none⟩ (.slice ao' out'.length cap')).cell? ⟨q, o, none⟩ := fun o => World.cell?_of_block (w := w1.setCell ⟨q, 30, none⟩ (.slice ao' out'.length cap')) (a := ⟨q, o, none⟩) hq3
  have hc : ∀ o, o ≠ 30 → w3.cell? ⟨q, o, none⟩ = w.cell? ⟨q, o, none⟩ := fun o ho => (hc3 o).trans (hc2 o ho)
  have hk : ∀ k, k < w.heap.size → k ≠ q → k ≠ g → blk ao ≠ some k → w3.heap[k]? = w.heap[k]? := by
    intro k h1 h2 h3 h4
    rw [hg3.block k (by omega) (fun e => h3 (by cases e; rfl)), hg2.block k (by omega) (by simp; exact h2), hg1.block k h1 (fun e => h4 e.symm)]
  have hT : ∀ k, T k → w3.heap[k]? = w.heap[k]? := fun k hT => hk k (hR.tlt k hT) (fun e => g5 (e ▸ hT)) (fun e => g4 (e ▸ hT)) (fun e => (ha k e).2.1 hT)
  refine ⟨⟨?_, h.ls, h.bs, T, ?_, ?_⟩, ?_⟩
  · have l1 := h.lm.kept hst hg1 (fun e => (ha q e.symm).2.2.2.1 rfl) (fun e => (ha p e.symm).2.2.2.2.1 rfl) (fun e => (ha hB e.symm).2.2.2.2.2 rfl) (fun v k e1 e2 e3 => (h26 v k e1 e2).2.2 ao n cap h30 e3.symm) (fun k e => by have := hab k e; omega)
    have l2 := l1.set29 30 (by omega) (.slice ao' out'.length cap')
    exact l2.kept hst hg3 (fun e => g1 (by cases e; rfl)) (fun e => g2 (by cases e; rfl)) (fun e => g3 (by cases e; rfl)) (fun v k e1 e2 e3 => by
      rw [hc2 26 (by omega)] at e1
      exact (h26 v k e1 e2).2.1 (by cases e3; rfl)) (fun k e => by cases e; omega)
  · refine ⟨hR.ne, fun k hk => by have := hR.tlt k hk; omega, hR.s0, hr, (hc 29 (by omega)).trans hR.c29, ⟨ao', cap', ?_, ?_, ha'⟩, (hc 31 (by omega)).trans hR.c31, (hc 32 (by omega)).trans hR.c32, ⟨fun e => (hc 33 (by omega)).trans (hR.c33.1 e), fun e => ?_⟩, ⟨?_, fun e1 e2 => ?_⟩, (hc 35 (by omega)).trans hR.c35, (hc 36 (by omega)).trans hR.c36, (hc 37 (by omega)).trans hR.c37, (hc 38 (by omega)).trans hR.c38, fun k o e => ⟨(hR.kz k o e).1, (hT k (hR.kz k o e).1).trans (hR.kz k o e).2⟩⟩
    · rw [hc3 30]
      exact World.cell?_setCell_same _ _ _ ((hc1 30).trans h30)
    · refine ho'.keep (fun k e => ?_)
      have hkk := ha' k e
      have hlt : k < w1.heap.size := by
        rcases ho'.2 with ⟨h5, _⟩ | ⟨g', cap'', cur, h5, _, h6, _⟩
        · simp only [Value.slice.injEq] at h5
          rw [h5.1] at e
          cases e
        · simp only [Value.slice.injEq] at h5
          rw [h5.1] at e
          simp [blk] at e
          subst e
          exact (Array.getElem?_eq_some_iff.1 h6).1
      rw [hg3.block k (by omega) (fun e => hkk.2.1 (by cases e; rfl)), hg2.block k hlt (by simp; exact hkk.2.2.1)]
    · obtain ⟨u, lo, hi, h1, h2, h3⟩ := hR.c33.2 e
      exact ⟨u, lo, hi, (hc 33 (by omega)).trans h1, h2.keep (fun k k1 k2 => hT k (h3 k k1 k2)) (by omega), h3⟩
    · obtain ⟨old, h1⟩ := hR.c34.1
      exact ⟨old, (hc 34 (by omega)).trans h1⟩
    · obtain ⟨u, lo, hi, h1, h2, h3⟩ := hR.c34.2 e1 e2
      exact ⟨u, lo, hi, (hc 34 (by omega)).trans h1, h2.keep (fun k k1 k2 => hT k (h3 k k1 k2)) (by omega), h3⟩
  · intro v k e1 e2
    rw [hc 26 (by omega)] at e1
    refine ⟨(h26 v k e1 e2).1, (h26 v k e1 e2).2.1, fun a2 n2 cap2 e3 e4 => ?_⟩
    rw [hc3 30, World.cell?_setCell_same _ _ _ ((hc1 30).trans h30)] at e3
    simp only [Option.some.injEq, Value.slice.injEq] at e3
    obtain ⟨rfl, _, _⟩ := e3
    rcases hx k e4 with h1 | h1
    · have := h.lm.at26 v k e1 e2
      omega
    · exact (h26 v k e1 e2).2.2 ao n cap h30 h1
  · exact (((Below.refl B w).grown hg1 (by omega) hab).grown hg2 (by omega) (fun k e => by simp at e; omega)).grown hg3 (by omega) (fun k e => by cases e; omega)
/-- What tell leaves. -/
def tellC (s : Nat) (c : IC) (D : List Int) : IC := { c with out := c.out ++ D, t := lastN s (c.t ++ D) }
def TellPost (KH : Nat → Option Obj) (q p hB g s B : Nat) (zs : List Int) (aft : Value) (c : IC) (D : List Int) (e : Ending) (w w' : World) : Prop :=
  (c.out.length + D.length ≤ 100000 → e = .returned .nilIface ∧ IMem KH q p hB g s B zs aft w' (tellC s c D) ∧ Below B w w') ∧ (100000 < c.out.length + D.length → e = .returned (flt 6) ∧ IMem KH q p hB g s B zs aft w' c ∧ Below B w w')
set_option maxRecDepth 100000 in
set_option maxHeartbeats 3200000 in
theorem tell_any (q p hB g s B : Nat) (zs : List Int) (aft : Value) (c : IC) (bo : Option Addr) (bc : Nat) (D : List Int) (w : World) (hM : IMem KH q p hB g s B zs aft w c) (h7 : 7 ≤ c.st) (hol : c.out.length ≤ 100000) (hr : Row w bo D) (hnil : bo = none → D.length = 0 ∧ bc = 0) (hfit : D.length ≤ bc) (hbc : bc ≤ maxLen) (hDl : D.length ≤ 100000)
    (hsep : ∀ ad, bo = some ad → ad.block ≠ q ∧ ad.block ≠ g ∧ ∀ ao n cap, w.cell? ⟨q, 30, none⟩ = some (.slice ao n cap) → blk ao ≠ some ad.block) :
    Calls Tryz.prog 157 #[.pointer (some ⟨q, 0, none⟩), .slice bo D.length bc] w fun e w' => TellPost KH q p hB g s B zs aft c D e w w' := by
  obtain ⟨i0, hi, hz0, hz1, hz2⟩ := info_parts Tryz.info_u8s
  have hqw := hM.lt
  have HM := hideM hM
  obtain ⟨T, hR, _⟩ := hM.ex
  obtain ⟨ao, cap, c30, hO, _⟩ := hR.o30
  have f30 := hM.lm.free 30
  have c29 := hR.c29
  have HRG := hideM hR.rg
  have HS0 := hideM hR.s0
  have HO := hideM hO
  have HR := hideM hr
  have HN := hideM hnil
  have HSEP := hideM hsep
  have HBS := hideM hM.bs
  clear hR hO hM hr hnil hsep
  unfold TellPost
  obtain ⟨N, hN⟩ : ∃ N, c.out.length = N := ⟨_, rfl⟩
  rw [hN] at c30 hol ⊢
  have HNN := hideM hN
  by_cases hgt : 100000 < N + D.length
  · have hgb : decide ((N : Int) + (D.length : Int) > 100000) = true := decide_eq_true (by omega)
    go_enter Tryz.func157, Tryz.ntmps157
    go_wp2_with fail
    exact bodyPost_ret (v := flt 6) (by simp [results, Tryz.results157, go_sem, flt]) rfl ⟨fun h => by omega, fun _ => ⟨rfl, HM.out, Below.refl _ _⟩⟩
  · have hgb : decide ((N : Int) + (D.length : Int) > 100000) = false := decide_eq_false (by omega)
    have HOl : Hid (w.ownsRow B 5 1 (.slice ao N cap) N (c.out.map (Value.int .u8))) := by rw [← HNN.out]; exact HO.out
    go_enter Tryz.func157, Tryz.ntmps157
    go_wp2_with (at_builtin; refine wpList_append_row _ rfl _ _ 22 rfl B 5 i0 (.int .u8 0) 1 Tryz.underlying22 hi hz0 hz1 hz2 rfl (.slice ao N cap) N (c.out.map (Value.int .u8)) rfl HOl.out bo bc D rfl HR.out HN.out (by unfold maxLen; omega) (by omega) (by have := HBS.out; omega) ?_)
    intro v' w1 hown hgrow hat
    rw [← List.map_append] at hown
    obtain ⟨ao', cap', e', ho'⟩ := OwnsB.of hown
    subst e'
    have hown' : (Value.slice ao' (c.out ++ D).length cap').ownBlock = blk ao' := by cases ao' <;> rfl
    have hown2 : (Value.slice ao N cap).ownBlock = blk ao := by cases ao <;> rfl
    rw [hown', hown2] at hat
    rw [hown2] at hgrow
    obtain ⟨T, hR, h26⟩ := HM.out.ex
    obtain ⟨g1, g2, g3, g4, g5, g6, g7⟩ := hR.ne
    have ha : ∀ k, blk ao = some k → k < w.heap.size ∧ ¬ T k ∧ k ≠ g ∧ k ≠ q ∧ k ≠ p ∧ k ≠ hB := fun k e => hR.at30 ao _ cap k c30 e
    have hgl : g < w.heap.size := by obtain ⟨rs, p, c, h1, _⟩ := HRG.out; exact h1.lt
    have hq1 : w1.heap[q]? = w.heap[q]? := hgrow.block q hqw (fun e => (ha q e.symm).2.2.2.1 rfl)
    have k30 : w1.cell? ⟨q, 30, none⟩ = some (.slice ao N cap) := (World.cell?_of_block (w := w) (a := ⟨q, 30, none⟩) hq1).trans c30
    have k29 : w1.cell? ⟨q, 29, none⟩ = some (.pointer (some ⟨g, 0, none⟩)) := (World.cell?_of_block (w := w) (a := ⟨q, 29, none⟩) hq1).trans c29
    have l30 : w1.frozen? ⟨q, 30, none⟩ = false := (World.frozen?_of_block (w := w) (a := ⟨q, 30, none⟩) hq1).trans f30
    have hz1' := hgrow.size
    have hg2 := grownBy_setCell w1 ⟨q, 30, none⟩ (.slice ao' (c.out ++ D).length cap')
    have RG2 : RingT (w1.setCell ⟨q, 30, none⟩ (.slice ao' (c.out ++ D).length cap')) g s c.t := HRG.out.keep (by rw [hg2.block g (by omega) (by simp; exact g1), hgrow.block g hgl (fun e => (ha g e.symm).2.2.1 rfl)])
    have RW2 : Row (w1.setCell ⟨q, 30, none⟩ (.slice ao' (c.out ++ D).length cap')) bo D := (HR.out.grown hgrow (fun ad e e2 => (HSEP.out ad e).2.2 ao N cap c30 e2.symm)).grown hg2 (fun ad e e2 => (HSEP.out ad e).1 (by simpa using e2))
    obtain ⟨rs, pp, cc, hA, hI⟩ := RG2
    have PUT := hideM (put_far g rs s pp cc c.t D bo bc _ hA hI HS0.out.2 RW2 hfit hbc (fun ad e => (HSEP.out ad e).2.1))
    have TOLD := hideM (fun (w3 : World) (h1 : (w1.setCell ⟨q, 30, none⟩ (.slice ao' (c.out ++ D).length cap')).grownBy w3 (some g)) (h2 : RingT w3 g s (lastN s (c.t ++ D))) => HM.out.told h7 c30 ho' hgrow hat h1 h2)
    obtain ⟨z, hz⟩ : ∃ z, (c.out ++ D).length = z := ⟨_, rfl⟩
    rw [hz] at PUT TOLD hown hown' ⊢
    have hqz : q < w1.heap.size := by omega
    clear hown hgrow hat ho' hR h26 ha hq1 hg2 RW2 hA hI hown' hown2 HRG HO HOl HR HN HSEP hz g1 g2 g3 g4 g5 g6 g7 c30 c29 f30
    go_upto_region 4 with fail
    have m29 : (w1.setCell ⟨q, 30, none⟩ (.slice ao' z cap')).cell? ⟨q, 29, none⟩ = some (.pointer (some ⟨g, 0, none⟩)) := (World.cell?_setCell_other _ _ _ _ (by simp)).trans k29
    have hqz2 : q < (w1.setCell ⟨q, 30, none⟩ (.slice ao' z cap')).heap.size := by simpa using hqz
    generalize (w1.setCell ⟨q, 30, none⟩ (.slice ao' z cap')) = w2 at *
    clear k30 k29 l30
    go_wp2_with fail
    refine Calls.mono PUT.out ?_
    rintro e w3 ⟨rfl, ⟨rs', p', c', h1, h2⟩, hg3⟩
    have FIN := hideM (TOLD.out w3 hg3 ⟨rs', p', c', h1, h2⟩)
    clear h1 h2 hg3 PUT TOLD m29
    go_wp2_with fail
    exact bodyPost_ret (v := .nilIface) (by simp [results, Tryz.results157, go_sem]) rfl ⟨fun _ => ⟨rfl, FIN.out.1, FIN.out.2⟩, fun h => by omega⟩
end Go.Proofs.YtbddkkfakkedaaaGreatDoor
namespace Go.Proofs.YtbddkkfakkedaaaGreatDoor
open Go.RowKit
variable {KH : Nat → Option Obj}
attribute [local go_sem ↓] Go.wp_at_zero Go.wp_at_succ
set_option linter.unusedVariables false

/-- The window alone has changed. -/
theorem IMem.ring {q p hB g s B : Nat} {zs : List Int} {aft : Value} {w w' : World} {c : IC} (h : IMem KH q p hB g s B zs aft w c) (h7 : 7 ≤ c.st) {t' : List Int} (hg : w.grownBy w' (some g)) (hr : RingT w' g s t') : IMem KH q p hB g s B zs aft w' { c with t := t' } ∧ Below B w w' := by
  obtain ⟨T, hR, h26⟩ := h.ex
  obtain ⟨g1, g2, g3, g4, g5, g6, g7⟩ := hR.ne
  have hq := h.lm.lt
  obtain ⟨bs1, bs2, bs3, bs4⟩ := h.bs
  have hqb : w'.heap[q]? = w.heap[q]? := hg.block q hq (fun e => g1 (by cases e; rfl))
  have hc : ∀ o, w'.cell? ⟨q, o, none⟩ = w.cell? ⟨q, o, none⟩ := fun o => World.cell?_of_block (w := w) (a := ⟨q, o, none⟩) hqb
  have hT : ∀ k, T k → w'.heap[k]? = w.heap[k]? := fun k hT => hg.block k (hR.tlt k hT) (fun e => g4 (by cases e; exact hT))
  refine ⟨⟨h.lm.kept (h.ls.2 h7) hg (fun e => g1 (by cases e; rfl)) (fun e => g2 (by cases e; rfl)) (fun e => g3 (by cases e; rfl)) (fun v k e1 e2 e3 => (h26 v k e1 e2).2.1 (by cases e3; rfl)) (fun k e => by cases e; omega), h.ls, h.bs, T, ?_, ?_⟩, ?_⟩
  · refine ⟨hR.ne, fun k hk => by have := hR.tlt k hk; have := hg.size; omega, hR.s0, hr, (hc 29).trans hR.c29, ?_, (hc 31).trans hR.c31, (hc 32).trans hR.c32, ⟨fun e => (hc 33).trans (hR.c33.1 e), fun e => ?_⟩, ⟨?_, fun e1 e2 => ?_⟩, (hc 35).trans hR.c35, (hc 36).trans hR.c36, (hc 37).trans hR.c37, (hc 38).trans hR.c38, fun k o e => ⟨(hR.kz k o e).1, (hT k (hR.kz k o e).1).trans (hR.kz k o e).2⟩⟩
    · obtain ⟨ao, cap, h1, h2, h4⟩ := hR.o30
      exact ⟨ao, cap, (hc 30).trans h1, h2.keep (fun k e => hg.block k (hR.at30 _ _ _ k h1 e).1 (fun e2 => (h4 k e).2.1 (by cases e2; rfl))), h4⟩
    · obtain ⟨u, lo, hi, h1, h2, h3⟩ := hR.c33.2 e
      exact ⟨u, lo, hi, (hc 33).trans h1, h2.keep (fun k k1 k2 => hT k (h3 k k1 k2)) hg.size, h3⟩
    · obtain ⟨old, h1⟩ := hR.c34.1
      exact ⟨old, (hc 34).trans h1⟩
    · obtain ⟨u, lo, hi, h1, h2, h3⟩ := hR.c34.2 e1 e2
      exact ⟨u, lo, hi, (hc 34).trans h1, h2.keep (fun k k1 k2 => hT k (h3 k k1 k2)) hg.size, h3⟩
  · intro v k e1 e2
    rw [hc 26] at e1
    rw [hc 30]
    exact h26 v k e1 e2
  · exact (Below.refl B w).grown hg (by omega) (fun k e => by cases e; omega)
/-- What was told has grown. -/
theorem IMem.outs {q p hB g s B : Nat} {zs : List Int} {aft : Value} {w w1 : World} {c : IC} (h : IMem KH q p hB g s B zs aft w c) (h7 : 7 ≤ c.st) {ao ao' : Option Addr} {n cap cap' : Nat} {out' : List Int} (h30 : w.cell? ⟨q, 30, none⟩ = some (.slice ao n cap))
    (ho' : OwnsB 5 B w1 ao' cap' out') (hg1 : w.grownBy w1 (blk ao)) (hat : blk ao' = blk ao ∨ blk ao' = some w.heap.size) :
    IMem KH q p hB g s B zs aft (w1.setCell ⟨q, 30, none⟩ (.slice ao' out'.length cap')) { c with out := out' } ∧ Below B w (w1.setCell ⟨q, 30, none⟩ (.slice ao' out'.length cap')) := by
  obtain ⟨T, hR, h26⟩ := h.ex
  obtain ⟨g1, g2, g3, g4, g5, g6, g7⟩ := hR.ne
  have hgl : g < w.heap.size := by obtain ⟨rs, p, c, h1, _⟩ := hR.rg; exact h1.lt
  have ha := fun k e => hR.at30 ao n cap k h30 e
  have hz := hg1.size
  have hg2 := grownBy_setCell w1 ⟨q, 30, none⟩ (.slice ao' out'.length cap')
  exact h.told h7 h30 ho' hg1 hat (World.grownBy.refl _ _) (hR.rg.keep (by rw [hg2.block g (by omega) (by simp; exact g1), hg1.block g hgl (fun e => (ha g e.symm).2.2.1 rfl)]))
/-- What a copy tells. -/
def copyC (s : Nat) (c : IC) (dist : Nat) : IC := { c with out := c.out ++ dataN c.t dist c.len, t := lastN s (copyN c.t dist c.len) }
def CopyPost (KH : Nat → Option Obj) (q p hB g s B : Nat) (zs : List Int) (aft : Value) (c : IC) (dist : Nat) (e : Ending) (w w' : World) : Prop :=
  (c.t.length < dist → e = .returned (flt 3) ∧ IMem KH q p hB g s B zs aft w' c ∧ Below B w w') ∧ (dist ≤ c.t.length → 100000 < c.out.length + c.len → e = .returned (flt 6) ∧ IMem KH q p hB g s B zs aft w' c ∧ Below B w w') ∧
    (dist ≤ c.t.length → c.out.length + c.len ≤ 100000 → e = .returned .nilIface ∧ IMem KH q p hB g s B zs aft w' (copyC s c dist) ∧ Below B w w')
theorem u8_news {w : World} {B e g n cap : Nat} {zs : List Int} (h : w.ownsRow B e 1 (.slice (some ⟨g, 0, none⟩) n cap) n (zs.map (Value.int .u8))) : ∀ j u, (zs.map (Value.int .u8))[j]? = some u → w.cell? ((⟨g, 0, none⟩ : Addr).add j) = some u := by
  intro j u hu
  have hl : (zs.map (Value.int .u8)).length = n := by have := h.1; omega
  have hj : j < n := by rw [← hl]; exact (List.getElem?_eq_some_iff.1 hu).1
  rw [Addr.add_lit, Nat.zero_add, h.cellAt j (by omega)]
  exact hu
set_option maxRecDepth 100000 in
set_option maxHeartbeats 6400000 in
theorem tellCopy_any (q p hB g s B : Nat) (zs : List Int) (aft : Value) (c : IC) (dist : Nat) (w : World) (hM : IMem KH q p hB g s B zs aft w c) (h7 : 7 ≤ c.st) (hol : c.out.length ≤ 100000) (hd0 : 1 ≤ dist) (hd1 : dist ≤ 100000) (hn0 : 1 ≤ c.len) (hn1 : c.len ≤ 258) :
    Calls Tryz.prog 183 #[.pointer (some ⟨q, 0, none⟩), .int .i64 (dist : Nat)] w fun e w' => CopyPost KH q p hB g s B zs aft c dist e w w' := by
  obtain ⟨i0, hi, hz0, hz1, hz2⟩ := info_parts Tryz.info_u8s
  have hqw := hM.lt
  have HM := hideM hM
  obtain ⟨T, hR, _⟩ := hM.ex
  obtain ⟨ao, cap, c30, hO, _⟩ := hR.o30
  have f30 := hM.lm.free 30
  have c29 := hR.c29
  have c37 := hR.c37
  have hne := hR.ne
  obtain ⟨rs, pp, cc, hA, hI⟩ := hR.rg
  obtain ⟨r0, r1, r2, rfz⟩ := hA.three
  have hgw := hA.lt
  have hcl := hI.len
  have HRG := hideM hR.rg
  have HS0 := hideM hR.s0
  have HO := hideM hO
  have HBS := hideM hM.bs
  have HA30 := hideM (fun k e => hR.at30 ao _ cap k c30 e)
  clear hA hI rfz r0 r1 hR hM
  unfold CopyPost
  obtain ⟨N, hN⟩ : ∃ N, c.out.length = N := ⟨_, rfl⟩
  rw [hN] at c30 hol ⊢
  have HNN := hideM hN
  by_cases hgt : c.t.length < dist
  · have hgb : decide ((dist : Int) > (cc : Int)) = true := decide_eq_true (by omega)
    go_enter Tryz.func183, Tryz.ntmps183
    go_wp2_with fail
    exact bodyPost_ret (v := flt 3) (by simp [results, Tryz.results183, go_sem, flt]) rfl ⟨fun _ => ⟨rfl, HM.out, Below.refl _ _⟩, fun h => by omega, fun h => by omega⟩
  · have hgb : decide ((dist : Int) > (cc : Int)) = false := decide_eq_false (by omega)
    have hd : Below w.heap.size w w.drew := (Below.refl _ _).drew
    have HMd := hideM (HM.out.below hd)
    have HBd := hideM (hd.mono (show B ≤ w.heap.size from by have := HBS.out; omega))
    by_cases hlg : 100000 < N + c.len
    · have hlb : decide ((N : Int) + (c.len : Int) > 100000) = true := decide_eq_true (by omega)
      go_enter Tryz.func183, Tryz.ntmps183
      go_upto_region 3 with fail
      go_region
      go_wp2_with fail
      exact bodyPost_ret (v := flt 6) (by simp [results, Tryz.results183, go_sem, flt]) rfl ⟨fun h => by omega, fun _ _ => ⟨rfl, HMd.out, HBd.out⟩, fun _ h => by omega⟩
    · have hlb : decide ((N : Int) + (c.len : Int) > 100000) = false := decide_eq_false (by omega)
      have d30 : w.drew.cell? ⟨q, 30, none⟩ = some (.slice ao N cap) := c30
      have d29 : w.drew.cell? ⟨q, 29, none⟩ = some (.pointer (some ⟨g, 0, none⟩)) := c29
      have d37 : w.drew.cell? ⟨q, 37, none⟩ = some (.int .i64 (c.len : Nat)) := c37
      have dq : q < w.drew.heap.size := hqw
      have df30 : w.drew.frozen? ⟨q, 30, none⟩ = false := f30
      have DRG : Hid (RingT w.drew g s c.t) := HRG.out.keep rfl
      have DO : Hid (OwnsB 5 B w.drew ao cap c.out) := HO.out.keep (fun _ _ => rfl)
      go_enter Tryz.func183, Tryz.ntmps183
      go_upto_region 3 with fail
      go_region
      go_upto_region 5 with fail
      clear c30 c29 c37 r2 f30
      have hdz : w.drew.heap.size = w.heap.size := rfl
      rw [← hdz] at HA30
      generalize w.drew = w1 at *
      clear hdz hd
      have e30 : w1.drew.cell? ⟨q, 30, none⟩ = some (.slice ao N cap) := d30
      have HRP := hideM (repeat_far g s c.t dist c.len w1.drew (DRG.out.keep rfl) HS0.out.2 hd0 (by omega) hn0 hn1)
      have hz2' : w1.drew.heap.size = w1.heap.size := rfl
      rw [hz2'] at HRP
      obtain ⟨gx, hgx⟩ : ∃ gx, w1.heap.size = gx := ⟨_, rfl⟩
      rw [hgx] at HRP
      have HNL : Hid (((dataN c.t dist c.len).map (Value.int .u8)).length = c.len * 1) := by show _ = _; rw [List.length_map, dataN_len, Nat.mul_one]
      have HON : Hid (∀ u ∈ (dataN c.t dist c.len).map (Value.int .u8), u.oneCell' = true) := by intro u hu; obtain ⟨x, _, rfl⟩ := List.mem_map.1 hu; rfl
      have H63 : Hid (N + c.len ≤ maxLen) := by show _ ≤ _; unfold maxLen; omega
      have H64 : Hid ((N + c.len) * 1 ≤ 140737488355328) := by show _ ≤ _; omega
      have HT0 : Hid (0 < c.len) := by show _ < _; omega
      have HOl : Hid (∀ w5, w1.drew.grownBy w5 (some g) → w5.ownsRow B 5 1 (.slice ao N cap) N (c.out.map (Value.int .u8))) := by
        intro w5 h5
        have := (DO.out.keep (w' := w1.drew) (fun _ _ => rfl)).keep (w' := w5) (fun k e => h5.block k (HA30.out k e).1 (fun e2 => (HA30.out k e).2.2.1 (by cases e2; rfl)))
        rw [← HNN.out]
        exact this
      have HBx : Hid (∀ w5, w1.drew.grownBy w5 (some g) → B ≤ w5.heap.size) := by
        intro w5 h5
        have h6 := h5.size
        have h7 := HBS.out
        have h8 : q < w1.drew.heap.size := dq
        omega
      have HOB : Hid ((Value.slice ao N cap).ownBlock = blk ao) := by show _ = _; cases ao <;> rfl
      have HQN : Hid (some q ≠ (Value.slice ao N cap).ownBlock) := by
        rw [HOB.out]
        exact fun e => (HA30.out q e.symm).2.2.2.1 rfl
      go_region_law (first
        | (go_simp; go_at_call 188; refine HRP.out.mono ?_; rintro e w5 ⟨rfl, hown5, hring5, hg5⟩; have k30 := hg5.cell e30 (by have := hne.1; simpa using this.symm); have m30 : w5.frozen? ⟨q, 30, none⟩ = false := (World.frozen?_of_block (w := w1.drew) (a := ⟨q, 30, none⟩) (hg5.block q dq (by have := hne.1; simpa using this.symm))).trans df30; have hs5 := hg5.size; have hq5 : q < w5.heap.size := Nat.lt_of_lt_of_le dq hs5; have HOW5 := hideM (HOl.out w5 hg5); have HBH5 := hideM (HBx.out w5 hg5); have HNW5 := hideM (u8_news hown5))
        | (refine step_append_lies _ rfl (.tmp 33) (.tmp 43) 22 rfl B 5 i0 (.int .u8 0) 1 1 Tryz.underlying22 hi hz0 hz1 hz2 rfl (by decide) (.slice ao N cap) N (c.out.map (Value.int .u8)) (by simp [Act.eval]) HOW5.out ⟨gx, 0, none⟩ c.len c.len ((dataN c.t dist c.len).map (Value.int .u8)) (by simp [Act.eval]) HNL.out HNW5.out HON.out HT0.out H63.out H64.out HBH5.out _ rfl ?_; intro g6 cap6 w6 hown6 hgrow6 hat6 hlt6; have n30 : w6.cell? ⟨q, 30, none⟩ = some (.slice ao N cap) := hgrow6.cell k30 HQN.out; have o30 : w6.frozen? ⟨q, 30, none⟩ = false := (World.frozen?_of_block (w := w5) (a := ⟨q, 30, none⟩) (hgrow6.block q hq5 HQN.out)).trans m30))
      all_goals
        have hM5 := (HMd.out.below (show Below w1.heap.size w1 w1.drew from (Below.refl _ _).drew)).ring h7 hg5 hring5
        have ho6 : OwnsB 5 B w6 (some ⟨g6, 0, none⟩) cap6 (c.out ++ dataN c.t dist c.len) := by
          have hl : (c.out ++ dataN c.t dist c.len).length = N + c.len := by rw [List.length_append, HNN.out, dataN_len]
          have := hown6
          rw [← List.map_append] at this
          unfold OwnsB
          rw [hl]
          exact this
        have hg6 : w5.grownBy w6 (blk ao) := by rw [← HOB.out]; exact hgrow6
        have hM6 := hM5.1.outs (ao' := some ⟨g6, 0, none⟩) (out' := c.out ++ dataN c.t dist c.len) h7 k30 ho6 hg6 (by
          rcases hat6 with h | h
          · left; rw [← HOB.out, h]; rfl
          · right; rw [h]; rfl)
        rw [show (c.out ++ dataN c.t dist c.len).length = N + c.len from by rw [List.length_append, HNN.out, dataN_len]] at hM6
        have FIN : Hid (IMem KH q p hB g s B zs aft (w6.setCell ⟨q, 30, none⟩ (.slice (some ⟨g6, 0, none⟩) (N + c.len) cap6)) (copyC s c dist) ∧ Below B w (w6.setCell ⟨q, 30, none⟩ (.slice (some ⟨g6, 0, none⟩) (N + c.len) cap6))) :=
          ⟨hM6.1, HBd.out.trans ((show Below B w1 w1.drew from (Below.refl _ _).drew).trans (hM5.2.trans hM6.2))⟩
        clear hM5 ho6 hg6 hM6 hown6 hgrow6 hat6 hown5 hring5 hg5
        go_wp2_with fail
        exact bodyPost_ret (v := .nilIface) (by simp [results, Tryz.results183, go_sem]) rfl ⟨fun h => by omega, fun _ h => by omega, fun _ _ => ⟨rfl, FIN.out.1, FIN.out.2⟩⟩
end Go.Proofs.YtbddkkfakkedaaaGreatDoor
