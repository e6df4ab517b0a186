import Derived.Deep.MidRow
import Derived.Test.YtlfabilmilkboaaGreatDoorMAD
import Derived.Test.YtlfabilmilkboaaGreatDoorMAS
namespace Go.Proofs.YtlfabilmilkboaaGreatDoor
open Go.RowKit
attribute [local go_sem ↓] Go.wp_at_zero Go.wp_at_succ
set_option linter.unusedVariables false

/-- Nineteen zeros. -/
def Z19 : List Value := [.int .i64 0, .int .i64 0, .int .i64 0, .int .i64 0, .int .i64 0, .int .i64 0, .int .i64 0, .int .i64 0, .int .i64 0, .int .i64 0, .int .i64 0, .int .i64 0, .int .i64 0, .int .i64 0, .int .i64 0, .int .i64 0, .int .i64 0, .int .i64 0, .int .i64 0]
def clr (f : Nat → Int) : Nat → Int := fun j => if 5 ≤ j ∧ j ≤ 23 then 0 else f j
theorem Z19_at (j : Nat) (h : j < Z19.length) : Z19[j] = .int .i64 0 := by
  have h2 : j < 19 := h
  have h3 : j = 0 ∨ j = 1 ∨ j = 2 ∨ j = 3 ∨ j = 4 ∨ j = 5 ∨ j = 6 ∨ j = 7 ∨ j = 8 ∨ j = 9 ∨ j = 10 ∨ j = 11 ∨ j = 12 ∨ j = 13 ∨ j = 14 ∨ j = 15 ∨ j = 16 ∨ j = 17 ∨ j = 18 := by omega
  rcases h3 with rfl | rfl | rfl | rfl | rfl | rfl | rfl | rfl | rfl | rfl | rfl | rfl | rfl | rfl | rfl | rfl | rfl | rfl | rfl <;> rfl
/-- What a write to other cells of the machine keeps: numbers aside. -/
theorem LMem.put {q p hB : Nat} {zs : List Int} {rdy : Value} {w w' : World} {c : LC} {f' : Nat → Int} (h : LMem q p hB zs rdy w c) (hg : w.grownBy w' (some q)) (hc : ∀ o, ¬ isNum o → w'.cell? ⟨q, o, none⟩ = w.cell? ⟨q, o, none⟩) (hf : ∀ o, w'.frozen? ⟨q, o, none⟩ = w.frozen? ⟨q, o, none⟩)
    (hn : ∀ k, isNum k → w'.cell? ⟨q, k, none⟩ = some (.int .i64 (f' k))) : LMem q p hB zs rdy w' { c with f := f' } := by
  have hq := h.lt
  obtain ⟨B, v, b1, b2, b3, b4, b5, b6, b7, b8⟩ := h.own
  refine ⟨h.ne, h.neh, h.two, h.rd.grown hg (by simp; exact Ne.symm h.ne) (by simp; exact h.neh), (hc 0 (by unfold isNum; omega)).trans h.c0, ?_, hn, ?_, (hc 28 (by unfold isNum; omega)).trans h.c28, ?_, ?_, ?_, ?_⟩
  · obtain ⟨old, ho⟩ := h.c1
    exact ⟨old, (hc 1 (by unfold isNum; omega)).trans ho⟩
  · obtain ⟨old, ho⟩ := h.c25
    exact ⟨old, (hc 25 (by unfold isNum; omega)).trans ho⟩
  · intro j
    rw [hf]
    exact h.free j
  · refine ⟨B, v, b1, b2, b3, Nat.le_trans b4 hg.size, (hc 26 (by unfold isNum; omega)).trans b5, ?_, b7, ?_⟩
    · refine b6.kept hg ?_
      obtain ⟨_, hx⟩ := b6
      rcases hx with ⟨rfl, _⟩ | ⟨g, cap, cur, rfl, hb, _⟩
      · exact .inl rfl
      · refine .inr ?_
        simp [Value.ownBlock]
        omega
    · intro hs
      obtain ⟨t, S, m, L, w0, h1, h2, h3, h4, h5, h6⟩ := b8 hs
      refine ⟨t, S, m, L, w0, (hc 25 (by unfold isNum; omega)).trans h1, h2, h3, h4, h5, fun j k1 k2 => ?_⟩
      rw [← h6 j k1 k2]
      exact hg.block j (by omega) (by simp; omega)
  · exact hg.cell h.g0 (by simp; have := h.two; omega)
  · exact fun k hk => hg.cell (h.g1 k hk) (by simp; have := h.two; omega)
theorem LMem.zeros {q p hB : Nat} {zs : List Int} {rdy : Value} {w : World} {c : LC} (h : LMem q p hB zs rdy w c) : LMem q p hB zs rdy (w.setCells q 5 Z19) { c with f := clr c.f } := by
  have hl : Z19.length = 19 := rfl
  refine h.put (grownBy_setCells q Z19 5 w) ?_ ?_ ?_
  · intro o ho
    refine World.cell?_setCells_out q Z19 5 w ⟨q, o, none⟩ (fun _ _ => ?_)
    unfold isNum at ho
    show o < 5 ∨ 5 + Z19.length ≤ o
    omega
  · intro o
    exact World.frozen?_setCells q Z19 5 w ⟨q, o, none⟩
  · intro k hk
    by_cases hm : 5 ≤ k ∧ k ≤ 23
    · have h1 := World.cell?_setCells_in q Z19 5 w (fun j hj => by rw [h.num (5 + j) (by unfold isNum; omega)]; rfl) (k - 5) (by omega)
      rw [show 5 + (k - 5) = k from by omega] at h1
      rw [h1, Z19_at]
      simp [clr, hm]
    · rw [World.cell?_setCells_out q Z19 5 w ⟨q, k, none⟩ (fun _ _ => by show k < 5 ∨ 5 + Z19.length ≤ k; omega), h.num k hk]
      simp [clr, hm]
theorem Trod.zeros {q p : Nat} {w : World} : Trod q p w (w.setCells q 5 Z19) := by
  have hl : Z19.length = 19 := rfl
  have hc : ∀ o, 26 ≤ o → (w.setCells q 5 Z19).cell? ⟨q, o, none⟩ = w.cell? ⟨q, o, none⟩ := fun o ho => World.cell?_setCells_out q Z19 5 w ⟨q, o, none⟩ (fun _ _ => by show o < 5 ∨ 5 + Z19.length ≤ o; omega)
  have hg := grownBy_setCells q Z19 5 w
  refine ⟨hg.os, hg.tape, hg.output, hg.size, ?_, (fun o ho => hc o (by omega)), (fun v k h1 h2 => .inr ⟨v, (hc 26 (by omega)) ▸ h1, h2⟩)⟩
  intro j hj h1 _ _
  exact hg.block j hj (by simpa using h1)
/-- The lengths are taken away. -/
theorem LMem.bare {q p hB : Nat} {zs : List Int} {rdy : Value} {w : World} {c : LC} (h : LMem q p hB zs rdy w c) (s : Nat) (hs : s ≤ 3) : LMem q p hB zs rdy (w.setCell ⟨q, 26, none⟩ (.slice none 0 0)) { c with st := s, lens := [] } := by
  have hq := h.lt
  have hg := grownBy_setCell w ⟨q, 26, none⟩ (.slice none 0 0)
  have hc : ∀ o, o ≠ 26 → (w.setCell ⟨q, 26, none⟩ (.slice none 0 0)).cell? ⟨q, o, none⟩ = w.cell? ⟨q, o, none⟩ := fun o ho => World.cell?_setCell_other _ _ _ _ (by first | (simp; done) | (simp; omega))
  obtain ⟨B, v, b1, b2, b3, b4, b5, b6, b7, b8⟩ := h.own
  refine ⟨h.ne, h.neh, h.two, h.rd.grown hg (by simp; exact Ne.symm h.ne) (by simp; exact h.neh), (hc 0 (by omega)).trans h.c0, ?_, ?_, ?_, (hc 28 (by omega)).trans h.c28, ?_, ?_, ?_, ?_⟩
  · obtain ⟨old, ho⟩ := h.c1
    exact ⟨old, (hc 1 (by omega)).trans ho⟩
  · intro j hj
    rw [hc j (by unfold isNum at hj; omega)]
    exact h.num j hj
  · obtain ⟨old, ho⟩ := h.c25
    exact ⟨old, (hc 25 (by omega)).trans ho⟩
  · intro j
    rw [World.frozen?_setCell]
    exact h.free j
  · refine ⟨B, .slice none 0 0, b1, b2, b3, Nat.le_trans b4 hg.size, World.cell?_setCell_same _ _ _ b5, ⟨rfl, .inl ⟨rfl, rfl⟩⟩, (fun _ _ => rfl), (fun h4 => ?_)⟩
    have : 4 ≤ s := h4
    omega
  · exact hg.cell h.g0 (by simp; have := h.two; omega)
  · exact fun k hk => hg.cell (h.g1 k hk) (by simp; have := h.two; omega)
theorem Trod.bare {q p : Nat} {w : World} {v : Value} (hv : w.cell? ⟨q, 26, none⟩ = some v) : Trod q p w (w.setCell ⟨q, 26, none⟩ (.slice none 0 0)) := by
  have hg := grownBy_setCell w ⟨q, 26, none⟩ (.slice none 0 0)
  refine ⟨hg.os, hg.tape, hg.output, hg.size, ?_, (fun o ho => World.cell?_setCell_other _ _ _ _ (by first | (simp; done) | (simp; omega))), ?_⟩
  · intro j hj h1 _ _
    exact hg.block j hj (by simpa using h1)
  · intro v' k h1 h2
    rw [World.cell?_setCell_same _ _ _ hv] at h1
    cases h1
    cases h2
end Go.Proofs.YtlfabilmilkboaaGreatDoor
namespace Go.Proofs.YtlfabilmilkboaaGreatDoor
open Go.RowKit
attribute [local go_sem ↓] Go.wp_at_zero Go.wp_at_succ
set_option linter.unusedVariables false

/-- litCount. -/
def litCountS (zs : List Int) (c : LC) : LC ⊕ (Int × LC) :=
  if c.i + 5 ≤ 8 * zs.length then
    if ((field (bnum zs) c.i 5 : Nat) : Int) + 257 > 286 then .inr (3, { c with i := c.i + 5, f := upd c.f 2 ((field (bnum zs) c.i 5 : Nat) + 257) }) else .inl { c with st := 1, i := c.i + 5, f := upd (clr (upd c.f 2 ((field (bnum zs) c.i 5 : Nat) + 257))) 24 0, lens := [] }
  else .inr (2, c)
theorem Tryz.size_19 : (Tryz.prog.info? 53).map (·.size) = some 19 := by kernel_rfl
theorem Z19_one : Z19.toArray.all (·.oneCell') = true := all_oneCell_toArray (by intro v hv; simp [Z19] at hv; subst hv; rfl)
theorem Z19_size : Z19.toArray.size = 19 := rfl
theorem LMem.there {q p hB : Nat} {zs : List Int} {rdy : Value} {w : World} {c : LC} (h : LMem q p hB zs rdy w c) : w.there q 5 19 := by
  intro j hj
  exact ⟨by rw [h.num (5 + j) (by unfold isNum; omega)]; rfl, h.free _⟩
set_option maxRecDepth 100000 in
set_option maxHeartbeats 800000 in
theorem litCount_any (q p hB : Nat) (zs : List Int) (rdy : Value) (c : LC) (w : World) (hM : LMem q p hB zs rdy w c) (hs : c.st = 0) (hz : Octets zs) (hzl : zs.length ≤ 65536) :
    Calls Tryz.prog 47 #[.pointer (some ⟨q, 0, none⟩)] w fun e w' => LPost q p hB zs rdy (litCountS zs c) e w w' := by
  have hqw := hM.lt
  have HM := hideM hM
  have HS := hideM hs
  clear hs
  unfold litCountS
  by_cases hn : c.i + 5 ≤ 8 * zs.length
  · rw [if_pos hn]
    have HN := hideM (number_yes q p hB zs c.i 5 w hM.c0 hM.rd hz hzl (by decide) hn)
    have hF := field_small (bnum zs) c.i 5 (by decide)
    generalize field (bnum zs) c.i 5 = F at *
    clear hM hn
    by_cases hx : (F : Int) + 257 > 286
    · rw [if_pos hx]
      have hxb : decide ((F : Int) + 257 > 286) = true := decide_eq_true hx
      go_enter Tryz.func47, Tryz.ntmps47
      go_wp2_with fail
      refine Calls.mono HN.out ?_
      rintro e w1 ⟨rfl, hR, hg⟩
      have hM1 := HM.out.went hR hg
      have HM3 := hideM (hM1.set 2 (by unfold isNum; omega) ((F : Int) + 257))
      have HT2 := hideM ((Trod.num HM.out.ne hqw hg).trans (Trod.set 2 (.int .i64 ((F : Int) + 257)) (by decide)))
      have q2 := hM1.num 2 (by unfold isNum; omega)
      have f2 := hM1.free 2
      have hq1 := hM1.lt
      clear hM1 hR hg HN HM
      go_wp2_with fail
      exact bodyPost_ret (v := .tuple #[.nilFunc, flt 3]) (by simp [results, Tryz.results47, go_sem, flt]) rfl (LPost.no HM3.out HT2.out)
    · rw [if_neg hx]
      have hxb : decide ((F : Int) + 257 > 286) = false := decide_eq_false hx
      go_enter Tryz.func47, Tryz.ntmps47
      go_wp2_with fail
      refine Calls.mono HN.out ?_
      rintro e w1 ⟨rfl, hR, hg⟩
      have hM1 := HM.out.went hR hg
      have hM2 := hM1.set 2 (by unfold isNum; omega) ((F : Int) + 257)
      have HT2 := (Trod.num HM.out.ne hqw hg).trans (Trod.set (p := p) (q := q) 2 (.int .i64 ((F : Int) + 257)) (by decide))
      have q2 := hM1.num 2 (by unfold isNum; omega)
      have f2 := hM1.free 2
      have q2' := hM2.num 2 (by unfold isNum; omega)
      simp only [upd, if_pos] at q2'
      have hq1 := hM1.lt
      have HM2 := hideM hM2
      have HU2 := hideM HT2
      clear hM1 hM2 hR hg HN HM HT2
      go_upto_region 7 with fail
      clear q2 f2 hq1
      generalize w1.setCell ⟨q, 2, none⟩ (.int .i64 ((F : Int) + 257)) = w2 at *
      have hM2 := HM2.out
      have hth := hM2.there
      have hsz := Tryz.size_19
      have hon := Z19_one
      rw [← Z19_size] at hth hsz
      have hM3 := hM2.zeros
      have c24 := hM3.num 24 (by unfold isNum; omega)
      have f24 := hM3.free 24
      have f26 := hM3.free 26
      have hq3 := hM3.lt
      have hM4 := hM3.set 24 (by unfold isNum; omega) 0
      have HM5 := hideM (hM4.bare 1 (by decide))
      have hT4 : Trod q p w ((w2.setCells q 5 Z19).setCell ⟨q, 24, none⟩ (.int .i64 0)) := (HU2.out.trans Trod.zeros).trans (Trod.set 24 (.int .i64 0) (by decide))
      have ⟨v26, c26⟩ : ∃ v, (w2.setCells q 5 Z19).cell? ⟨q, 26, none⟩ = some v := by
        obtain ⟨_, v, _, _, _, _, hv, _⟩ := hM3.own
        exact ⟨v, hv⟩
      have HT5 := hideM (hT4.trans (Trod.bare ((World.cell?_setCell_other _ ⟨q, 24, none⟩ ⟨q, 26, none⟩ _ (by simp)).trans c26)))
      have hq2 := hM2.lt
      obtain ⟨K, hK⟩ : ∃ K, Z19 = K := ⟨_, rfl⟩
      rw [hK] at hth hsz hon c24 f24 f26 c26 HM5 HT5 hq3
      have HK := hideM hK
      have HTH := hideM hth
      have HSZ := hideM hsz
      have HON := hideM hon
      clear hth hsz hon hK hM2 hM3 hM4 hT4 HM2 HU2
      go_wp2_with (refine wpList_store_mid rfl 53 _ _ rfl q 5 K.toArray rfl (by rw [← HK.out]; rfl) HTH.out HSZ.out HON.out ?_)
      exact bodyPost_ret (v := .tuple #[.func (Fn.func 66) #[.pointer (some ⟨q, 0, none⟩)] #[], .nilIface]) (by simp [results, Tryz.results47, go_sem]) rfl (LPost.ok rfl HM5.out HT5.out)
  · rw [if_neg hn]
    have HN := hideM (number_no q p hB zs c.i 5 w hM.c0 hM.rd hzl (by decide) hn)
    clear hM hn
    unfold flt at HN
    go_enter Tryz.func47, Tryz.ntmps47
    go_wp2_with fail
    refine Calls.mono HN.out ?_
    rintro e w1 ⟨rfl, hb⟩
    have HM2 := hideM (HM.out.went (HM.out.rd.below hb) (grownBy_of_below hb (some p)))
    have HT2 := hideM (Trod.below (p := p) hqw hb)
    clear hb HN HM
    go_wp2_with fail
    exact bodyPost_ret (v := .tuple #[.nilFunc, flt 2]) (by simp [results, Tryz.results47, go_sem, flt]) rfl (LPost.no HM2.out HT2.out)
end Go.Proofs.YtlfabilmilkboaaGreatDoor
namespace Go.Proofs.YtlfabilmilkboaaGreatDoor
open Go.RowKit
attribute [local go_sem ↓] Go.wp_at_zero Go.wp_at_succ
set_option linter.unusedVariables false

theorem LMem.below {q p hB : Nat} {zs : List Int} {rdy : Value} {w w' : World} {c : LC} (h : LMem q p hB zs rdy w c) (hb : Below w.heap.size w w') : LMem q p hB zs rdy w' c := h.went (h.rd.below hb) (grownBy_of_below hb (some p))
/-- The lengths of the code of lengths. -/
def cl19 (f : Nat → Int) : List Int := (List.range 19).map fun k => f (5 + k)
theorem cl19_len (f : Nat → Int) : (cl19 f).length = 19 := by simp [cl19]
theorem LMem.row19 {q p hB : Nat} {zs : List Int} {rdy : Value} {w : World} {c : LC} (h : LMem q p hB zs rdy w c) : Row64 w (some ⟨q, 5, none⟩) (cl19 c.f) := by
  intro i hi
  rw [cl19_len] at hi
  refine ⟨q, 5, rfl, ?_⟩
  rw [h.num (5 + i) (by unfold isNum; omega)]
  simp [cl19, List.getD_eq_getElem?_getD, hi]
/-- The table is laid. -/
theorem LMem.tabled {q p hB : Nat} {zs : List Int} {rdy : Value} {w : World} {c : LC} {tb : List Int} {t m : Nat} {S : Nat → Nat × Nat} {L : Nat → Nat → Nat × Nat} (h : LMem q p hB zs rdy w c) (h1 : 1 ≤ c.st) (h3 : c.st ≤ 3) (hT : TabOf tb w t S m L) (hqt : q < t) (hpt : p < t) :
    LMem q p hB zs rdy (w.setCell ⟨q, 25, none⟩ (.pointer (some ⟨t, 0, none⟩))) { c with st := 4, tb := tb } := by
  have hq := h.lt
  have hg := grownBy_setCell w ⟨q, 25, none⟩ (.pointer (some ⟨t, 0, none⟩))
  have hc : ∀ o, o ≠ 25 → (w.setCell ⟨q, 25, none⟩ (.pointer (some ⟨t, 0, none⟩))).cell? ⟨q, o, none⟩ = w.cell? ⟨q, o, none⟩ := fun o ho => World.cell?_setCell_other _ _ _ _ (by first | (simp; done) | (simp; omega))
  obtain ⟨B, v, b1, b2, b3, b4, b5, b6, b7, b8⟩ := h.own
  obtain ⟨old, ho⟩ := h.c25
  have h25 := World.cell?_setCell_same w ⟨q, 25, none⟩ (.pointer (some ⟨t, 0, none⟩)) ho
  refine ⟨h.ne, h.neh, h.two, h.rd.grown hg (by simp; exact Ne.symm h.ne) (by simp; exact h.neh), (hc 0 (by omega)).trans h.c0, ?_, ?_, ⟨_, h25⟩, (hc 28 (by omega)).trans h.c28, ?_, ?_, ?_, ?_⟩
  · obtain ⟨old, ho⟩ := h.c1
    exact ⟨old, (hc 1 (by omega)).trans ho⟩
  · intro j hj
    rw [hc j (by unfold isNum at hj; omega)]
    exact h.num j hj
  · intro j
    rw [World.frozen?_setCell]
    exact h.free j
  · have hv := b7 h1 h3
    subst hv
    refine ⟨w.heap.size, .slice none 0 0, by omega, by omega, by omega, hg.size, (hc 26 (by omega)).trans b5, ?_, (fun _ _ => rfl), (fun _ => ?_)⟩
    · obtain ⟨x1, x2⟩ := b6
      rcases x2 with ⟨_, x3⟩ | ⟨g, _, _, x3, _⟩
      · exact ⟨x1, .inl ⟨rfl, x3⟩⟩
      · cases x3
    · exact ⟨t, S, m, L, w, h25, hT, hqt, hpt, Nat.le_refl _, fun k k1 k2 => hg.block k k2 (by simp; omega)⟩
  · exact hg.cell h.g0 (by simp; have := h.two; omega)
  · exact fun k hk => hg.cell (h.g1 k hk) (by simp; have := h.two; omega)
end Go.Proofs.YtlfabilmilkboaaGreatDoor
