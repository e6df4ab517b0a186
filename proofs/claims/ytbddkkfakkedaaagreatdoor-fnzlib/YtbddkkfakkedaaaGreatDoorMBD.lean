import Derived.Deep.MidRow
import Derived.BigRegion
import Derived.Test.YtbddkkfakkedaaaGreatDoorMAM
import Derived.Test.YtbddkkfakkedaaaGreatDoorMBC
namespace Go.Proofs.YtbddkkfakkedaaaGreatDoor
open Go.RowKit
attribute [local go_sem ↓] Go.wp_at_zero Go.wp_at_succ
set_option linter.unusedVariables false

/-- Nineteen zeros. -/
def Z19 : List Value := [.int .i64 0, .int .i64 0, .int .i64 0, .int .i64 0, .int .i64 0, .int .i64 0, .int .i64 0, .int .i64 0, .int .i64 0, .int .i64 0, .int .i64 0, .int .i64 0, .int .i64 0, .int .i64 0, .int .i64 0, .int .i64 0, .int .i64 0, .int .i64 0, .int .i64 0]
def clr (f : Nat → Int) : Nat → Int := fun j => if 5 ≤ j ∧ j ≤ 23 then 0 else f j
theorem Z19_at (j : Nat) (h : j < Z19.length) : Z19[j] = .int .i64 0 := by
  have h2 : j < 19 := h
  have h3 : j = 0 ∨ j = 1 ∨ j = 2 ∨ j = 3 ∨ j = 4 ∨ j = 5 ∨ j = 6 ∨ j = 7 ∨ j = 8 ∨ j = 9 ∨ j = 10 ∨ j = 11 ∨ j = 12 ∨ j = 13 ∨ j = 14 ∨ j = 15 ∨ j = 16 ∨ j = 17 ∨ j = 18 := by omega
  rcases h3 with rfl | rfl | rfl | rfl | rfl | rfl | rfl | rfl | rfl | rfl | rfl | rfl | rfl | rfl | rfl | rfl | rfl | rfl | rfl <;> rfl
/-- What a write to other cells of the machine keeps: numbers aside. -/
theorem LMem.put {q p hB : Nat} {zs : List Int} {rdy : Value} {w w' : World} {c : LC} {f' : Nat → Int} (h : LMem q p hB zs rdy w c) (hg : w.grownBy w' (some q)) (hc : ∀ o, ¬ isNum o → w'.cell? ⟨q, o, none⟩ = w.cell? ⟨q, o, none⟩) (hf : ∀ o, w'.frozen? ⟨q, o, none⟩ = w.frozen? ⟨q, o, none⟩)
    (hn : ∀ k, isNum k → w'.cell? ⟨q, k, none⟩ = some (.int .i64 (f' k))) : LMem q p hB zs rdy w' { c with f := f' } := by
  have hq := h.lt
  obtain ⟨B, v, b1, b2, b3, b4, b5, b6, b7, b8⟩ := h.own
  refine ⟨h.ne, h.neh, h.two, h.rd.grown hg (by simp; exact Ne.symm h.ne) (by simp; exact h.neh), (hc 0 (by unfold isNum; omega)).trans h.c0, ?_, hn, ?_, (hc 28 (by unfold isNum; omega)).trans h.c28, ?_, ?_, ?_, ?_⟩
  · obtain ⟨old, ho⟩ := h.c1
    exact ⟨old, (hc 1 (by unfold isNum; omega)).trans ho⟩
  · obtain ⟨old, ho⟩ := h.c25
    exact ⟨old, (hc 25 (by unfold isNum; omega)).trans ho⟩
  · intro j
    rw [hf]
    exact h.free j
  · refine ⟨B, v, b1, b2, b3, Nat.le_trans b4 hg.size, (hc 26 (by unfold isNum; omega)).trans b5, ?_, b7, ?_⟩
    · refine b6.kept hg ?_
      obtain ⟨_, hx⟩ := b6
      rcases hx with ⟨rfl, _⟩ | ⟨g, cap, cur, rfl, hb, _⟩
      · exact .inl rfl
      · refine .inr ?_
        simp [Value.ownBlock]
        omega
    · intro hs
      obtain ⟨t, S, m, L, w0, h1, h2, h3, h4, h5, h6⟩ := b8 hs
      refine ⟨t, S, m, L, w0, (hc 25 (by unfold isNum; omega)).trans h1, h2, h3, h4, h5, fun j k1 k2 => ?_⟩
      rw [← h6 j k1 k2]
      exact hg.block j (by omega) (by simp; omega)
  · exact hg.cell h.g0 (by simp; have := h.two; omega)
  · exact fun k hk => hg.cell (h.g1 k hk) (by simp; have := h.two; omega)
theorem LMem.zeros {q p hB : Nat} {zs : List Int} {rdy : Value} {w : World} {c : LC} (h : LMem q p hB zs rdy w c) : LMem q p hB zs rdy (w.setCells q 5 Z19) { c with f := clr c.f } := by
  have hl : Z19.length = 19 := rfl
  refine h.put (grownBy_setCells q Z19 5 w) ?_ ?_ ?_
  · intro o ho
    refine World.cell?_setCells_out q Z19 5 w ⟨q, o, none⟩ (fun _ _ => ?_)
    unfold isNum at ho
    show o < 5 ∨ 5 + Z19.length ≤ o
    omega
  · intro o
    exact World.frozen?_setCells q Z19 5 w ⟨q, o, none⟩
  · intro k hk
    by_cases hm : 5 ≤ k ∧ k ≤ 23
    · have h1 := World.cell?_setCells_in q Z19 5 w (fun j hj => by rw [h.num (5 + j) (by unfold isNum; omega)]; rfl) (k - 5) (by omega)
      rw [show 5 + (k - 5) = k from by omega] at h1
      rw [h1, Z19_at]
      simp [clr, hm]
    · rw [World.cell?_setCells_out q Z19 5 w ⟨q, k, none⟩ (fun _ _ => by show k < 5 ∨ 5 + Z19.length ≤ k; omega), h.num k hk]
      simp [clr, hm]
theorem Trod.zeros {q p : Nat} {w : World} : Trod q p w (w.setCells q 5 Z19) := by
  have hl : Z19.length = 19 := rfl
  have hc : ∀ o, 26 ≤ o → (w.setCells q 5 Z19).cell? ⟨q, o, none⟩ = w.cell? ⟨q, o, none⟩ := fun o ho => World.cell?_setCells_out q Z19 5 w ⟨q, o, none⟩ (fun _ _ => by show o < 5 ∨ 5 + Z19.length ≤ o; omega)
  have hg := grownBy_setCells q Z19 5 w
  refine ⟨hg.os, hg.tape, hg.output, hg.size, ?_, (fun o ho => hc o (by omega)), (fun v k h1 h2 => .inr ⟨v, (hc 26 (by omega)) ▸ h1, h2⟩)⟩
  intro j hj h1 _ _
  exact hg.block j hj (by simpa using h1)
/-- The lengths are taken away. -/
theorem LMem.bare {q p hB : Nat} {zs : List Int} {rdy : Value} {w : World} {c : LC} (h : LMem q p hB zs rdy w c) (s : Nat) (hs : s ≤ 3) : LMem q p hB zs rdy (w.setCell ⟨q, 26, none⟩ (.slice none 0 0)) { c with st := s, lens := [] } := by
  have hq := h.lt
  have hg := grownBy_setCell w ⟨q, 26, none⟩ (.slice none 0 0)
  have hc : ∀ o, o ≠ 26 → (w.setCell ⟨q, 26, none⟩ (.slice none 0 0)).cell? ⟨q, o, none⟩ = w.cell? ⟨q, o, none⟩ := fun o ho => World.cell?_setCell_other _ _ _ _ (by first | (simp; done) | (simp; omega))
  obtain ⟨B, v, b1, b2, b3, b4, b5, b6, b7, b8⟩ := h.own
  refine ⟨h.ne, h.neh, h.two, h.rd.grown hg (by simp; exact Ne.symm h.ne) (by simp; exact h.neh), (hc 0 (by omega)).trans h.c0, ?_, ?_, ?_, (hc 28 (by omega)).trans h.c28, ?_, ?_, ?_, ?_⟩
  · obtain ⟨old, ho⟩ := h.c1
    exact ⟨old, (hc 1 (by omega)).trans ho⟩
  · intro j hj
    rw [hc j (by unfold isNum at hj; omega)]
    exact h.num j hj
  · obtain ⟨old, ho⟩ := h.c25
    exact ⟨old, (hc 25 (by omega)).trans ho⟩
  · intro j
    rw [World.frozen?_setCell]
    exact h.free j
  · refine ⟨B, .slice none 0 0, b1, b2, b3, Nat.le_trans b4 hg.size, World.cell?_setCell_same _ _ _ b5, ⟨rfl, .inl ⟨rfl, rfl⟩⟩, (fun _ _ => rfl), (fun h4 => ?_)⟩
    have : 4 ≤ s := h4
    omega
  · exact hg.cell h.g0 (by simp; have := h.two; omega)
  · exact fun k hk => hg.cell (h.g1 k hk) (by simp; have := h.two; omega)
theorem Trod.bare {q p : Nat} {w : World} {v : Value} (hv : w.cell? ⟨q, 26, none⟩ = some v) : Trod q p w (w.setCell ⟨q, 26, none⟩ (.slice none 0 0)) := by
  have hg := grownBy_setCell w ⟨q, 26, none⟩ (.slice none 0 0)
  refine ⟨hg.os, hg.tape, hg.output, hg.size, ?_, (fun o ho => World.cell?_setCell_other _ _ _ _ (by first | (simp; done) | (simp; omega))), ?_⟩
  · intro j hj h1 _ _
    exact hg.block j hj (by simpa using h1)
  · intro v' k h1 h2
    rw [World.cell?_setCell_same _ _ _ hv] at h1
    cases h1
    cases h2
end Go.Proofs.YtbddkkfakkedaaaGreatDoor
namespace Go.Proofs.YtbddkkfakkedaaaGreatDoor
open Go.RowKit
attribute [local go_sem ↓] Go.wp_at_zero Go.wp_at_succ
set_option linter.unusedVariables false

/-- litCount. -/
def litCountS (zs : List Int) (c : LC) : LC ⊕ (Int × LC) :=
  if c.i + 5 ≤ 8 * zs.length then
    if ((field (bnum zs) c.i 5 : Nat) : Int) + 257 > 286 then .inr (3, { c with i := c.i + 5, f := upd c.f 2 ((field (bnum zs) c.i 5 : Nat) + 257) }) else .inl { c with st := 1, i := c.i + 5, f := upd (clr (upd c.f 2 ((field (bnum zs) c.i 5 : Nat) + 257))) 24 0, lens := [] }
  else .inr (2, c)
theorem Tryz.size_19 : (Tryz.prog.info? 65).map (·.size) = some 19 := by kernel_rfl
theorem Z19_one : Z19.toArray.all (·.oneCell') = true := all_oneCell_toArray (by intro v hv; simp [Z19] at hv; subst hv; rfl)
theorem Z19_size : Z19.toArray.size = 19 := rfl
theorem LMem.there {q p hB : Nat} {zs : List Int} {rdy : Value} {w : World} {c : LC} (h : LMem q p hB zs rdy w c) : w.there q 5 19 := by
  intro j hj
  exact ⟨by rw [h.num (5 + j) (by unfold isNum; omega)]; rfl, h.free _⟩
set_option maxRecDepth 100000 in
set_option maxHeartbeats 800000 in
theorem litCount_any (q p hB : Nat) (zs : List Int) (rdy : Value) (c : LC) (w : World) (hM : LMem q p hB zs rdy w c) (hs : c.st = 0) (hz : Octets zs) (hzl : zs.length ≤ 65536) :
    Calls Tryz.prog 126 #[.pointer (some ⟨q, 0, none⟩)] w fun e w' => LPost q p hB zs rdy (litCountS zs c) e w w' := by
  have hqw := hM.lt
  have HM := hideM hM
  have HS := hideM hs
  clear hs
  unfold litCountS
  by_cases hn : c.i + 5 ≤ 8 * zs.length
  · rw [if_pos hn]
    have HN := hideM (number_yes q p hB zs c.i 5 w hM.c0 hM.rd hz hzl (by decide) hn)
    have hF := field_small (bnum zs) c.i 5 (by decide)
    generalize field (bnum zs) c.i 5 = F at *
    clear hM hn
    by_cases hx : (F : Int) + 257 > 286
    · rw [if_pos hx]
      have hxb : decide ((F : Int) + 257 > 286) = true := decide_eq_true hx
      go_enter Tryz.func126, Tryz.ntmps126
      go_wp2_with fail
      refine Calls.mono HN.out ?_
      rintro e w1 ⟨rfl, hR, hg⟩
      have hM1 := HM.out.went hR hg
      have HM3 := hideM (hM1.set 2 (by unfold isNum; omega) ((F : Int) + 257))
      have HT2 := hideM ((Trod.num HM.out.ne hqw hg).trans (Trod.set 2 (.int .i64 ((F : Int) + 257)) (by decide)))
      have q2 := hM1.num 2 (by unfold isNum; omega)
      have f2 := hM1.free 2
      have hq1 := hM1.lt
      clear hM1 hR hg HN HM
      go_wp2_with fail
      exact bodyPost_ret (v := .tuple #[.nilFunc, flt 3]) (by simp [results, Tryz.results126, go_sem, flt]) rfl (LPost.no HM3.out HT2.out)
    · rw [if_neg hx]
      have hxb : decide ((F : Int) + 257 > 286) = false := decide_eq_false hx
      go_enter Tryz.func126, Tryz.ntmps126
      go_wp2_with fail
      refine Calls.mono HN.out ?_
      rintro e w1 ⟨rfl, hR, hg⟩
      have hM1 := HM.out.went hR hg
      have hM2 := hM1.set 2 (by unfold isNum; omega) ((F : Int) + 257)
      have HT2 := (Trod.num HM.out.ne hqw hg).trans (Trod.set (p := p) (q := q) 2 (.int .i64 ((F : Int) + 257)) (by decide))
      have q2 := hM1.num 2 (by unfold isNum; omega)
      have f2 := hM1.free 2
      have q2' := hM2.num 2 (by unfold isNum; omega)
      simp only [upd, if_pos] at q2'
      have hq1 := hM1.lt
      have HM2 := hideM hM2
      have HU2 := hideM HT2
      clear hM1 hM2 hR hg HN HM HT2
      go_upto_region 7 with fail
      clear q2 f2 hq1
      generalize w1.setCell ⟨q, 2, none⟩ (.int .i64 ((F : Int) + 257)) = w2 at *
      have hM2 := HM2.out
      have hth := hM2.there
      have hsz := Tryz.size_19
      have hon := Z19_one
      rw [← Z19_size] at hth hsz
      have hM3 := hM2.zeros
      have c24 := hM3.num 24 (by unfold isNum; omega)
      have f24 := hM3.free 24
      have f26 := hM3.free 26
      have hq3 := hM3.lt
      have hM4 := hM3.set 24 (by unfold isNum; omega) 0
      have HM5 := hideM (hM4.bare 1 (by decide))
      have hT4 : Trod q p w ((w2.setCells q 5 Z19).setCell ⟨q, 24, none⟩ (.int .i64 0)) := (HU2.out.trans Trod.zeros).trans (Trod.set 24 (.int .i64 0) (by decide))
      have ⟨v26, c26⟩ : ∃ v, (w2.setCells q 5 Z19).cell? ⟨q, 26, none⟩ = some v := by
        obtain ⟨_, v, _, _, _, _, hv, _⟩ := hM3.own
        exact ⟨v, hv⟩
      have HT5 := hideM (hT4.trans (Trod.bare ((World.cell?_setCell_other _ ⟨q, 24, none⟩ ⟨q, 26, none⟩ _ (by simp)).trans c26)))
      have hq2 := hM2.lt
      obtain ⟨K, hK⟩ : ∃ K, Z19 = K := ⟨_, rfl⟩
      rw [hK] at hth hsz hon c24 f24 f26 c26 HM5 HT5 hq3
      have HK := hideM hK
      have HTH := hideM hth
      have HSZ := hideM hsz
      have HON := hideM hon
      clear hth hsz hon hK hM2 hM3 hM4 hT4 HM2 HU2
      go_wp2_with (refine wpList_store_mid rfl 65 _ _ rfl q 5 K.toArray rfl (by rw [← HK.out]; rfl) HTH.out HSZ.out HON.out ?_)
      exact bodyPost_ret (v := .tuple #[.func (Fn.func 154) #[.pointer (some ⟨q, 0, none⟩)] #[], .nilIface]) (by simp [results, Tryz.results126, go_sem]) rfl (LPost.ok rfl HM5.out HT5.out)
  · rw [if_neg hn]
    have HN := hideM (number_no q p hB zs c.i 5 w hM.c0 hM.rd hzl (by decide) hn)
    clear hM hn
    unfold flt at HN
    go_enter Tryz.func126, Tryz.ntmps126
    go_wp2_with fail
    refine Calls.mono HN.out ?_
    rintro e w1 ⟨rfl, hb⟩
    have HM2 := hideM (HM.out.went (HM.out.rd.below hb) (grownBy_of_below hb (some p)))
    have HT2 := hideM (Trod.below (p := p) hqw hb)
    clear hb HN HM
    go_wp2_with fail
    exact bodyPost_ret (v := .tuple #[.nilFunc, flt 2]) (by simp [results, Tryz.results126, go_sem, flt]) rfl (LPost.no HM2.out HT2.out)
end Go.Proofs.YtbddkkfakkedaaaGreatDoor
namespace Go.Proofs.YtbddkkfakkedaaaGreatDoor
open Go.RowKit
attribute [local go_sem ↓] Go.wp_at_zero Go.wp_at_succ
set_option linter.unusedVariables false

theorem LMem.below {q p hB : Nat} {zs : List Int} {rdy : Value} {w w' : World} {c : LC} (h : LMem q p hB zs rdy w c) (hb : Below w.heap.size w w') : LMem q p hB zs rdy w' c := h.went (h.rd.below hb) (grownBy_of_below hb (some p))
/-- The lengths of the code of lengths. -/
def cl19 (f : Nat → Int) : List Int := (List.range 19).map fun k => f (5 + k)
theorem cl19_len (f : Nat → Int) : (cl19 f).length = 19 := by simp [cl19]
theorem LMem.row19 {q p hB : Nat} {zs : List Int} {rdy : Value} {w : World} {c : LC} (h : LMem q p hB zs rdy w c) : Row64 w (some ⟨q, 5, none⟩) (cl19 c.f) := by
  intro i hi
  rw [cl19_len] at hi
  refine ⟨q, 5, rfl, ?_⟩
  rw [h.num (5 + i) (by unfold isNum; omega)]
  simp [cl19, List.getD_eq_getElem?_getD, hi]
/-- The table is laid. -/
theorem LMem.tabled {q p hB : Nat} {zs : List Int} {rdy : Value} {w : World} {c : LC} {tb : List Int} {t m : Nat} {S : Nat → Nat × Nat} {L : Nat → Nat → Nat × Nat} (h : LMem q p hB zs rdy w c) (h1 : 1 ≤ c.st) (h3 : c.st ≤ 3) (hT : TabOf tb w t S m L) (hqt : q < t) (hpt : p < t) :
    LMem q p hB zs rdy (w.setCell ⟨q, 25, none⟩ (.pointer (some ⟨t, 0, none⟩))) { c with st := 4, tb := tb } := by
  have hq := h.lt
  have hg := grownBy_setCell w ⟨q, 25, none⟩ (.pointer (some ⟨t, 0, none⟩))
  have hc : ∀ o, o ≠ 25 → (w.setCell ⟨q, 25, none⟩ (.pointer (some ⟨t, 0, none⟩))).cell? ⟨q, o, none⟩ = w.cell? ⟨q, o, none⟩ := fun o ho => World.cell?_setCell_other _ _ _ _ (by first | (simp; done) | (simp; omega))
  obtain ⟨B, v, b1, b2, b3, b4, b5, b6, b7, b8⟩ := h.own
  obtain ⟨old, ho⟩ := h.c25
  have h25 := World.cell?_setCell_same w ⟨q, 25, none⟩ (.pointer (some ⟨t, 0, none⟩)) ho
  refine ⟨h.ne, h.neh, h.two, h.rd.grown hg (by simp; exact Ne.symm h.ne) (by simp; exact h.neh), (hc 0 (by omega)).trans h.c0, ?_, ?_, ⟨_, h25⟩, (hc 28 (by omega)).trans h.c28, ?_, ?_, ?_, ?_⟩
  · obtain ⟨old, ho⟩ := h.c1
    exact ⟨old, (hc 1 (by omega)).trans ho⟩
  · intro j hj
    rw [hc j (by unfold isNum at hj; omega)]
    exact h.num j hj
  · intro j
    rw [World.frozen?_setCell]
    exact h.free j
  · have hv := b7 h1 h3
    subst hv
    refine ⟨w.heap.size, .slice none 0 0, by omega, by omega, by omega, hg.size, (hc 26 (by omega)).trans b5, ?_, (fun _ _ => rfl), (fun _ => ?_)⟩
    · obtain ⟨x1, x2⟩ := b6
      rcases x2 with ⟨_, x3⟩ | ⟨g, _, _, x3, _⟩
      · exact ⟨x1, .inl ⟨rfl, x3⟩⟩
      · cases x3
    · exact ⟨t, S, m, L, w, h25, hT, hqt, hpt, Nat.le_refl _, fun k k1 k2 => hg.block k k2 (by simp; omega)⟩
  · exact hg.cell h.g0 (by simp; have := h.two; omega)
  · exact fun k hk => hg.cell (h.g1 k hk) (by simp; have := h.two; omega)
end Go.Proofs.YtbddkkfakkedaaaGreatDoor
namespace Go.Proofs.YtbddkkfakkedaaaGreatDoor
open Go.RowKit
attribute [local go_sem ↓] Go.wp_at_zero Go.wp_at_succ
set_option linter.unusedVariables false

/-- The numbers behind one more length of the code of lengths. -/
def cl1 (f : Nat → Int) (F : Nat) : Nat → Int := upd (upd f (5 + ord19 (f 24).toNat) (F : Int)) 24 (f 24 + 1)
/-- codeLen. -/
def codeLenS (zs : List Int) (c : LC) : LC ⊕ (Int × LC) :=
  if c.i + 3 ≤ 8 * zs.length then
    if c.f 24 + 1 < c.f 4 then .inl { c with st := 3, i := c.i + 3, f := cl1 c.f (field (bnum zs) c.i 3) }
    else if hk (cl19 (cl1 c.f (field (bnum zs) c.i 3))) = 1 then .inl { c with st := 4, i := c.i + 3, f := cl1 c.f (field (bnum zs) c.i 3), tb := cl19 (cl1 c.f (field (bnum zs) c.i 3)) }
    else .inr (3, { c with i := c.i + 3, f := cl1 c.f (field (bnum zs) c.i 3) })
  else .inr (2, c)
theorem ord19_le (k : Nat) (h : k < 19) : ord19 k < 19 := by
  have h3 : k = 0 ∨ k = 1 ∨ k = 2 ∨ k = 3 ∨ k = 4 ∨ k = 5 ∨ k = 6 ∨ k = 7 ∨ k = 8 ∨ k = 9 ∨ k = 10 ∨ k = 11 ∨ k = 12 ∨ k = 13 ∨ k = 14 ∨ k = 15 ∨ k = 16 ∨ k = 17 ∨ k = 18 := by omega
  rcases h3 with rfl | rfl | rfl | rfl | rfl | rfl | rfl | rfl | rfl | rfl | rfl | rfl | rfl | rfl | rfl | rfl | rfl | rfl | rfl <;> decide
set_option maxRecDepth 100000 in
set_option maxHeartbeats 1600000 in
theorem codeLen_any (q p hB : Nat) (zs : List Int) (rdy : Value) (c : LC) (k : Nat) (w : World) (hM : LMem q p hB zs rdy w c) (hs : c.st = 3) (hk : c.f 24 = (k : Int)) (hk19 : k < 19) (hz : Octets zs) (hzl : zs.length ≤ 65536) (r : LC ⊕ (Int × LC)) (hr : codeLenS zs c = r) :
    Calls Tryz.prog 175 #[.pointer (some ⟨q, 0, none⟩)] w fun e w' => LPost q p hB zs rdy r e w w' := by
  have hqw := hM.lt
  have HM := hideM hM
  have HS := hideM hs
  have HR := hideM hr
  have HK := hideM hk
  clear hs hr hk
  by_cases hn : c.i + 3 ≤ 8 * zs.length
  · have HN := hideM (number_yes q p hB zs c.i 3 w hM.c0 hM.rd hz hzl (by decide) hn)
    have hF := field_small (bnum zs) c.i 3 (by decide)
    have HIN := hideM hn
    obtain ⟨F, hFe⟩ : ∃ F, field (bnum zs) c.i 3 = F := ⟨_, rfl⟩
    rw [hFe] at HN hF
    have HF := hideM hFe
    clear hM hn hFe
    go_enter Tryz.func175, Tryz.ntmps175
    go_wp2_with fail
    refine Calls.mono HN.out ?_
    rintro e w1 ⟨rfl, hR, hg⟩
    have hM1 := HM.out.went hR hg
    have c24 : w1.cell? ⟨q, 24, none⟩ = some (.int .i64 (k : Int)) := by
      rw [hM1.num 24 (by unfold isNum; omega)]
      show some (Value.int .i64 (c.f 24)) = _
      rw [HK.out]
    have g1 := hM1.g1 k hk19
    have ho := ord19_le k hk19
    have cO := hM1.num (5 + ord19 k) (by unfold isNum; omega)
    have fO := hM1.free (5 + ord19 k)
    have hq1 := hM1.lt
    have h2 := hM1.two
    have HO : Hid (ord19 k = ord19 k) := rfl
    generalize hog : ord19 k = o at *
    have HOG := hideM hog
    have HM1 := hideM hM1
    have HT1 := hideM (Trod.num HM.out.ne hqw hg)
    clear hM1 hR hg HN HM hog HO
    go_upto_region 4 with fail
    go_region
    go_upto_region 5 with fail
    have hM2 := (HM1.out.set (5 + o) (by unfold isNum; omega) (F : Int)).below ((Below.refl _ _).drew)
    have hT2 : Trod q p w (w1.setCell ⟨q, 5 + o, none⟩ (.int .i64 (F : Int))).drew := (HT1.out.trans (Trod.set (5 + o) (.int .i64 (F : Int)) (by omega))).trans (Trod.below hM2.lt ((Below.refl _ _).drew))
    generalize (w1.setCell ⟨q, 5 + o, none⟩ (.int .i64 (F : Int))).drew = w2 at *
    have d24 : w2.cell? ⟨q, 24, none⟩ = some (.int .i64 (k : Int)) := by
      rw [hM2.num 24 (by unfold isNum; omega)]
      show some (Value.int .i64 (upd c.f (5 + o) F 24)) = _
      rw [upd, if_neg (by omega), HK.out]
    have d4 : w2.cell? ⟨q, 4, none⟩ = some (.int .i64 (c.f 4)) := by
      rw [hM2.num 4 (by unfold isNum; omega)]
      show some (Value.int .i64 (upd c.f (5 + o) F 4)) = _
      rw [upd, if_neg (by omega)]
    have f24 := hM2.free 24
    have hq2 := hM2.lt
    have hM3 := (hM2.set 24 (by unfold isNum; omega) ((k : Int) + 1)).below ((Below.refl _ _).drew)
    have HT3 : Hid (Trod q p w (w2.setCell ⟨q, 24, none⟩ (.int .i64 ((k : Int) + 1))).drew) := (hT2.trans (Trod.set 24 (.int .i64 ((k : Int) + 1)) (by omega))).trans (Trod.below hM3.lt ((Below.refl _ _).drew))
    have hf3 : cl1 c.f F = upd (upd c.f (5 + o) F) 24 ((k : Int) + 1) := by
      unfold cl1
      rw [HK.out, Int.toNat_natCast, HOG.out]
    have HM3 : Hid (LMem q p hB zs rdy (w2.setCell ⟨q, 24, none⟩ (.int .i64 ((k : Int) + 1))).drew { c with i := c.i + 3, f := cl1 c.f F }) := by
      show LMem q p hB zs rdy _ _
      rw [hf3]
      exact hM3
    have HC : Hid (codeLenS zs c = if (k : Int) + 1 < c.f 4 then .inl { c with st := 3, i := c.i + 3, f := cl1 c.f F } else if hk (cl19 (cl1 c.f F)) = 1 then .inl { c with st := 4, i := c.i + 3, f := cl1 c.f F, tb := cl19 (cl1 c.f F) } else .inr (3, { c with i := c.i + 3, f := cl1 c.f F })) := by
      show _ = _
      unfold codeLenS
      rw [if_pos HIN.out, HF.out, HK.out]
    clear hM2 hM3 hT2 hf3 c24 g1 cO fO hq1 HM1 HT1 HOG ho
    generalize c.f 4 = n4 at *
    go_upto_region 6 with fail
    by_cases hlt : (k : Int) + 1 < n4
    · have hltb : decide ((k : Int) + 1 < n4) = true := decide_eq_true hlt
      have HX : Hid (r = .inl { c with st := 3, i := c.i + 3, f := cl1 c.f F }) := by
        show _ = _
        rw [← HR.out, HC.out, if_pos hlt]
      have HM4 := hideM (HM3.out.at 3 (fun _ _ => by show 1 ≤ c.st ∧ c.st ≤ 3; rw [HS.out]; omega) (fun h => by omega))
      go_region
      go_wp2_with fail
      exact bodyPost_ret (v := .tuple #[.func (Fn.func 175) #[.pointer (some ⟨q, 0, none⟩)] #[], .nilIface]) (by simp [results, Tryz.results175, go_sem]) rfl (by rw [HX.out]; exact LPost.ok rfl HM4.out HT3.out)
    · have hltb : decide ((k : Int) + 1 < n4) = false := decide_eq_false hlt
      have HY : Hid (r = if hk (cl19 (cl1 c.f F)) = 1 then .inl { c with st := 4, i := c.i + 3, f := cl1 c.f F, tb := cl19 (cl1 c.f F) } else .inr (3, { c with i := c.i + 3, f := cl1 c.f F })) := by
        show _ = _
        rw [← HR.out, HC.out, if_neg hlt]
      go_region
      go_upto_region 8 with fail
      generalize (w2.setCell ⟨q, 24, none⟩ (.int .i64 ((k : Int) + 1))).drew = w3 at *
      clear d24 d4 f24 hq2 HC hlt hltb
      have HKI := hideM (ikind_any (some ⟨q, 5, none⟩) 19 (cl19 (cl1 c.f F)) w3 HM3.out.row19 (by rw [cl19_len]; decide))
      rw [cl19_len] at HKI
      have hq3 := HM3.out.lt
      go_wp2_with fail
      refine Calls.mono HKI.out ?_
      rintro e w4 ⟨rfl, hb4⟩
      have hM4 := HM3.out.below hb4
      have hT4 := HT3.out.trans (Trod.below hq3 hb4)
      have HM4 := hideM hM4
      have HT4 := hideM hT4
      have HCO := hideM (icodes_any (some ⟨q, 5, none⟩) 19 (cl19 (cl1 c.f F)) w4 hM4.row19 (by rw [cl19_len]; decide))
      rw [cl19_len] at HCO
      have hq4 := hM4.lt
      clear hM4 hT4 HKI hb4 HM3 HT3
      by_cases hk1 : hk (cl19 (cl1 c.f F)) = 1
      · rw [hk1]
        have HX : Hid (r = .inl { c with st := 4, i := c.i + 3, f := cl1 c.f F, tb := cl19 (cl1 c.f F) }) := by
          show _ = _
          rw [HY.out, if_pos hk1]
        clear HY hk1
        generalize cl19 (cl1 c.f F) = ls at *
        go_wp2_with fail
        refine Calls.mono HCO.out ?_
        rintro e w5 ⟨⟨bo, bc, rfl, hRH⟩, hb5⟩
        have HNT := hideM (newTab_of ls bo bc w5 hRH.reads)
        have hM5 := HM4.out.below hb5
        have HM5 := hideM hM5
        have HT5 := hideM (HT4.out.trans (Trod.below hq4 hb5))
        have hq5 := hM5.lt
        clear hM5 HCO hRH hb5 HM4 HT4
        go_wp2_with fail
        refine Calls.mono HNT.out ?_
        rintro e w6 ⟨t, S, m, L, rfl, ht, hTab, hb6⟩
        have hM6 := HM5.out.below hb6
        obtain ⟨old, c25⟩ := hM6.c25
        have f25 := hM6.free 25
        have hp5 := HM5.out.rd.lt
        have HM7 := hideM (hM6.tabled (by show 1 ≤ c.st; rw [HS.out]; decide) (by show c.st ≤ 3; rw [HS.out]; decide) hTab (by omega) (by omega))
        have HT7 := hideM ((HT5.out.trans (Trod.below hq5 hb6)).trans (Trod.set 25 (.pointer (some ⟨t, 0, none⟩)) (by decide)))
        have hq6 := hM6.lt
        clear hM6 hTab hb6 HNT HM5 HT5
        go_wp2_with fail
        exact bodyPost_ret (v := .tuple #[.func (Fn.func 182) #[.pointer (some ⟨q, 0, none⟩)] #[], .nilIface]) (by simp [results, Tryz.results175, go_sem]) rfl (by rw [HX.out]; exact LPost.ok rfl HM7.out HT7.out)
      · have HX : Hid (r = .inr (3, { c with i := c.i + 3, f := cl1 c.f F })) := by
          show _ = _
          rw [HY.out, if_neg hk1]
        clear HY HCO
        generalize hk (cl19 (cl1 c.f F)) = h at *
        have hhb : (h == 1) = false := by simp [hk1]
        have hhn : (h != 1) = true := by simp [hk1]
        go_wp2_with fail
        exact bodyPost_ret (v := .tuple #[.nilFunc, flt 3]) (by simp [results, Tryz.results175, go_sem, flt]) rfl (by rw [HX.out]; exact LPost.no HM4.out HT4.out)
  · have HN := hideM (number_no q p hB zs c.i 3 w hM.c0 hM.rd hzl (by decide) hn)
    have HX : Hid (r = .inr (2, c)) := by
      show _ = _
      rw [← HR.out, codeLenS, if_neg hn]
    clear hM hn
    unfold flt at HN
    go_enter Tryz.func175, Tryz.ntmps175
    go_wp2_with fail
    refine Calls.mono HN.out ?_
    rintro e w1 ⟨rfl, hb⟩
    have HM2 := hideM (HM.out.below hb)
    have HT2 := hideM (Trod.below (p := p) hqw hb)
    clear hb HN HM
    go_wp2_with fail
    exact bodyPost_ret (v := .tuple #[.nilFunc, flt 2]) (by simp [results, Tryz.results175, go_sem, flt]) rfl (by rw [HX.out]; exact LPost.no HM2.out HT2.out)
end Go.Proofs.YtbddkkfakkedaaaGreatDoor
namespace Go.Proofs.YtbddkkfakkedaaaGreatDoor
open Go.RowKit
attribute [local go_sem ↓] Go.wp_at_zero Go.wp_at_succ
set_option linter.unusedVariables false

set_option maxRecDepth 100000 in
set_option maxHeartbeats 1600000 in
theorem both_any (q g n cap l : Nat) (w : World) (h26 : w.cell? ⟨q, 26, none⟩ = some (.slice (some ⟨g, 0, none⟩) n cap)) (h2 : w.cell? ⟨q, 2, none⟩ = some (.int .i64 (l : Int))) (hl : l < n) (hn : n ≤ cap) (hb : n ≤ 1000) :
    Calls Tryz.prog 128 #[.pointer (some ⟨q, 0, none⟩)] w fun e w' => e = .returned (.tuple #[.slice (some ⟨g, 0, none⟩) l cap, .slice (some ⟨g, l, none⟩) (n - l) (cap - l)]) ∧ Below w.heap.size w w' := by
  have hqw : q < w.heap.size := World.block_lt_of_cell? w _ h26
  have h1 : ((l : Int) ≤ (n : Int)) := by omega
  have h3 : ((l : Int) ≤ (cap : Int)) := by omega
  have h4 : ¬ cap = l := by omega
  have h5 : ¬ l = cap := by omega
  have h6 : l ≤ cap := by omega
  have h7 : l ≤ n := by omega
  go_enter Tryz.func128, Tryz.ntmps128
  go_upto_region 1 with fail
  go_region
  go_wp2_with fail
  exact bodyPost_ret (v := .tuple #[.slice (some ⟨g, 0, none⟩) l cap, .slice (some ⟨g, l, none⟩) (n - l) (cap - l)]) (by simp [results, Tryz.results128, go_sem]) rfl ⟨rfl, (Below.refl _ _).drew⟩
/-- What checkLens asks of both lists. -/
abbrev chk (ls ds : List Int) : Prop := ls.getD 256 0 ≠ 0 ∧ (hk ls = 1 ∨ hk ls = 4) ∧ (hk ds = 1 ∨ hk ds = 4 ∨ hk ds = 5)
theorem Row64.takeN {w : World} {g : Nat} {zs : List Int} (h : Row64 w (some ⟨g, 0, none⟩) zs) (l : Nat) : Row64 w (some ⟨g, 0, none⟩) (zs.take l) := by
  intro i hi
  rw [List.length_take] at hi
  obtain ⟨b, off, e, hc⟩ := h i (by omega)
  refine ⟨b, off, e, ?_⟩
  rw [hc, List.getD_eq_getElem?_getD, List.getD_eq_getElem?_getD, List.getElem?_take_of_lt (by omega)]
theorem Row64.dropN {w : World} {g : Nat} {zs : List Int} (h : Row64 w (some ⟨g, 0, none⟩) zs) (l : Nat) : Row64 w (some ⟨g, l, none⟩) (zs.drop l) := by
  intro i hi
  rw [List.length_drop] at hi
  obtain ⟨b, off, e, hc⟩ := h (l + i) (by omega)
  cases e
  refine ⟨g, l, rfl, ?_⟩
  rw [show l + i = 0 + (l + i) from by omega, hc, List.getD_eq_getElem?_getD, List.getD_eq_getElem?_getD, List.getElem?_drop]
set_option maxRecDepth 100000 in
set_option maxHeartbeats 1600000 in
theorem checkLens_any (q g cap l : Nat) (zs : List Int) (w : World) (h26 : w.cell? ⟨q, 26, none⟩ = some (.slice (some ⟨g, 0, none⟩) zs.length cap)) (h2 : w.cell? ⟨q, 2, none⟩ = some (.int .i64 (l : Int))) (hl : l < zs.length) (hn : zs.length ≤ cap) (hb : zs.length ≤ 1000) (hrow : Row64 w (some ⟨g, 0, none⟩) zs) (h257 : 257 ≤ l) :
    Calls Tryz.prog 191 #[.pointer (some ⟨q, 0, none⟩)] w fun e w' => ((chk (zs.take l) (zs.drop l) → e = .returned .nilIface) ∧ (¬ chk (zs.take l) (zs.drop l) → e = .returned (flt 3))) ∧ Below w.heap.size w w' := by
  have HBO := hideM (both_any q g zs.length cap l w h26 h2 hl hn hb)
  have hqw : q < w.heap.size := World.block_lt_of_cell? w _ h26
  obtain ⟨x, hx⟩ : ∃ x, (zs.take l).getD 256 0 = x := ⟨_, rfl⟩
  obtain ⟨bb, of, eb, hcx⟩ := hrow.takeN l 256 (by rw [List.length_take]; omega)
  cases eb
  rw [hx, show 0 + 256 = 256 from rfl] at hcx
  have hgw : g < w.heap.size := World.block_lt_of_cell? w _ hcx
  have hl1 : (zs.take l).length = l := by rw [List.length_take]; omega
  have hl2 : (zs.drop l).length = zs.length - l := List.length_drop
  have HK1 := hideM (fun (W : World) (hb : Below w.heap.size w W) => ikind_any (some ⟨g, 0, none⟩) cap (zs.take l) W ((hrow.below hb).takeN l) (by omega))
  have HK2 := hideM (fun (W : World) (hb : Below w.heap.size w W) => ikind_any (some ⟨g, l, none⟩) (cap - l) (zs.drop l) W ((hrow.below hb).dropN l) (by omega))
  rw [hl1] at HK1
  rw [hl2] at HK2
  have HCH : Hid (chk (zs.take l) (zs.drop l) ↔ x ≠ 0 ∧ (hk (zs.take l) = 1 ∨ hk (zs.take l) = 4) ∧ (hk (zs.drop l) = 1 ∨ hk (zs.drop l) = 4 ∨ hk (zs.drop l) = 5)) := by
    show _ ↔ _
    unfold chk
    rw [hx]
  generalize chk (zs.take l) (zs.drop l) = C at *
  generalize hk (zs.take l) = a at *
  generalize hk (zs.drop l) = b at *
  generalize zs.length = n at *
  clear hx hl1 hl2 hrow
  have hl256 : (256 : Int) < (l : Int) := by omega
  go_enter Tryz.func191, Tryz.ntmps191
  go_wp2_with fail
  refine Calls.mono HBO.out ?_
  rintro e w1 ⟨rfl, hb1⟩
  have hcx1 := (hb1.cell (p := ⟨g, 256, none⟩) hgw).trans hcx
  have hs1 := hb1.size
  have HB1 := hideM hb1
  have HKA := hideM (HK1.out w1 hb1)
  clear hb1 HBO HK1 hcx h26 h2
  by_cases hx0 : x = 0
  · have hxb : (x == 0) = true := by simp [hx0]
    have HP : Hid (¬ C) := fun h => (HCH.out.1 h).1 hx0
    clear hx0
    go_wp2_with fail
    exact bodyPost_ret (v := flt 3) (by simp [results, Tryz.results191, go_sem, flt]) rfl ⟨⟨(fun h => absurd h HP.out), (fun _ => rfl)⟩, HB1.out⟩
  · have hxb : (x == 0) = false := by simp [hx0]
    have HX0 := hideM hx0
    clear hx0
    go_upto_region 4 with fail
    go_wp2_with fail
    refine Calls.mono HKA.out ?_
    rintro e w2 ⟨rfl, hb2⟩
    have hB2 := HB1.out.trans (hb2.mono hs1)
    have HB2 := hideM hB2
    have hs2 := hB2.size
    have HKB := hideM (HK2.out w2 hB2)
    clear hb2 hB2 HKA HK2 HB1 hcx1
    by_cases ha : a = 1 ∨ a = 4
    · have HA := hideM ha
      rcases ha with rfl | rfl
      · go_upto_region 7 with fail
        go_wp2_with fail
        refine Calls.mono HKB.out ?_
        rintro e w3 ⟨rfl, hb3⟩
        have HB3 := hideM (HB2.out.trans (hb3.mono hs2))
        clear hb3 HKB HB2
        by_cases hbb : b = 1 ∨ b = 4 ∨ b = 5
        · have HP : Hid C := HCH.out.2 ⟨HX0.out, HA.out, hbb⟩
          clear HCH HA
          rcases hbb with rfl | rfl | rfl
          · go_wp2_with fail
            exact bodyPost_ret (v := .nilIface) (by simp [results, Tryz.results191, go_sem]) rfl ⟨⟨(fun _ => rfl), (fun h => absurd HP.out h)⟩, HB3.out⟩
          · go_wp2_with fail
            exact bodyPost_ret (v := .nilIface) (by simp [results, Tryz.results191, go_sem]) rfl ⟨⟨(fun _ => rfl), (fun h => absurd HP.out h)⟩, HB3.out⟩
          · go_wp2_with fail
            exact bodyPost_ret (v := .nilIface) (by simp [results, Tryz.results191, go_sem]) rfl ⟨⟨(fun _ => rfl), (fun h => absurd HP.out h)⟩, HB3.out⟩
        · have HP : Hid (¬ C) := fun h => hbb (HCH.out.1 h).2.2
          have b1 : (b != 1) = true := by simp; omega
          have b2 : (b != 4) = true := by simp; omega
          have b3 : (b == 1) = false := by simp; omega
          have b4 : (b == 4) = false := by simp; omega
          have b5 : (b != 5) = true := by simp; omega
          have b6 : (b == 5) = false := by simp; omega
          clear hbb
          go_wp2_with fail
          exact bodyPost_ret (v := flt 3) (by simp [results, Tryz.results191, go_sem, flt]) rfl ⟨⟨(fun h => absurd h HP.out), (fun _ => rfl)⟩, HB3.out⟩
      · go_upto_region 7 with fail
        go_wp2_with fail
        refine Calls.mono HKB.out ?_
        rintro e w3 ⟨rfl, hb3⟩
        have HB3 := hideM (HB2.out.trans (hb3.mono hs2))
        clear hb3 HKB HB2
        by_cases hbb : b = 1 ∨ b = 4 ∨ b = 5
        · have HP : Hid C := HCH.out.2 ⟨HX0.out, HA.out, hbb⟩
          clear HCH HA
          rcases hbb with rfl | rfl | rfl
          · go_wp2_with fail
            exact bodyPost_ret (v := .nilIface) (by simp [results, Tryz.results191, go_sem]) rfl ⟨⟨(fun _ => rfl), (fun h => absurd HP.out h)⟩, HB3.out⟩
          · go_wp2_with fail
            exact bodyPost_ret (v := .nilIface) (by simp [results, Tryz.results191, go_sem]) rfl ⟨⟨(fun _ => rfl), (fun h => absurd HP.out h)⟩, HB3.out⟩
          · go_wp2_with fail
            exact bodyPost_ret (v := .nilIface) (by simp [results, Tryz.results191, go_sem]) rfl ⟨⟨(fun _ => rfl), (fun h => absurd HP.out h)⟩, HB3.out⟩
        · have HP : Hid (¬ C) := fun h => hbb (HCH.out.1 h).2.2
          have b1 : (b != 1) = true := by simp; omega
          have b2 : (b != 4) = true := by simp; omega
          have b3 : (b == 1) = false := by simp; omega
          have b4 : (b == 4) = false := by simp; omega
          have b5 : (b != 5) = true := by simp; omega
          have b6 : (b == 5) = false := by simp; omega
          clear hbb
          go_wp2_with fail
          exact bodyPost_ret (v := flt 3) (by simp [results, Tryz.results191, go_sem, flt]) rfl ⟨⟨(fun h => absurd h HP.out), (fun _ => rfl)⟩, HB3.out⟩
    · have HP : Hid (¬ C) := fun h => ha (HCH.out.1 h).2.1
      have a1 : (a != 1) = true := by simp; omega
      have a2 : (a != 4) = true := by simp; omega
      have a3 : (a == 1) = false := by simp; omega
      have a4 : (a == 4) = false := by simp; omega
      clear ha
      go_wp2_with fail
      exact bodyPost_ret (v := flt 3) (by simp [results, Tryz.results191, go_sem, flt]) rfl ⟨⟨(fun h => absurd h HP.out), (fun _ => rfl)⟩, HB2.out⟩
end Go.Proofs.YtbddkkfakkedaaaGreatDoor
