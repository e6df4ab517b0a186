import Derived.Deep.RegionHeld3
import Derived.Test.YtbddkkfakkedaaaGreatDoorMBD
namespace Go.Proofs.YtbddkkfakkedaaaGreatDoor
open Go.RowKit
attribute [local go_sem ↓] Go.wp_at_zero Go.wp_at_succ
set_option linter.unusedVariables false

theorem Ents.same {w w' : World} {g o n : Nat} {F : Nat → Nat × Nat} (h : Ents w g o n F) (hb : w'.heap[g]? = w.heap[g]?) (hs : w.heap.size ≤ w'.heap.size) : Ents w' g o n F := by
  refine ⟨Nat.lt_of_lt_of_le h.lt hs, fun i hi => ?_, fun i hi => ?_, fun k => ?_⟩
  · rw [World.cell?_of_block (w := w) (a := ⟨g, o + i * 2, none⟩) hb]; exact h.at0 i hi
  · rw [World.cell?_of_block (w := w) (a := ⟨g, o + i * 2 + 1, none⟩) hb]; exact h.at1 i hi
  · rw [World.frozen?_of_block (w := w) (a := ⟨g, k, none⟩) hb]; exact h.free k
theorem Tab.same {w w' : World} {p m : Nat} {S : Nat → Nat × Nat} {L : Nat → Nat → Nat × Nat} (h : Tab w p S m L) (hb : ∀ k, p ≤ k → k < w.heap.size → w'.heap[k]? = w.heap[k]?) (hs : w.heap.size ≤ w'.heap.size) : Tab w' p S m L := by
  obtain ⟨h1, lo, c, xs, h2, h3, h4⟩ := h
  refine ⟨h1.same (hb p (Nat.le_refl _) h1.lt) hs, lo, c, xs, ?_, ?_, fun j hj => ?_⟩
  · rw [World.cell?_of_block (w := w) (a := ⟨p, 1024, none⟩) (hb p (Nat.le_refl _) h1.lt)]; exact h2
  · obtain ⟨x1, x2⟩ := h3
    refine ⟨x1, ?_⟩
    rcases x2 with x2 | ⟨g, cap, cur, y1, y2, y3, y4⟩
    · exact .inl x2
    · refine .inr ⟨g, cap, cur, y1, y2, ?_, y4⟩
      have hg : g < w.heap.size := by
        rcases Nat.lt_or_ge g w.heap.size with h | h
        · exact h
        · rw [Array.getElem?_eq_none h] at y3; cases y3
      rw [hb g (by omega) hg]
      exact y3
  · obtain ⟨g, e, h5, h6⟩ := h4 j hj
    exact ⟨g, e, h5, h6.same (hb g (by omega) h6.lt) hs⟩
theorem TabOf.same {ls : List Int} {w w' : World} {t m : Nat} {S : Nat → Nat × Nat} {L : Nat → Nat → Nat × Nat} (h : TabOf ls w t S m L) (hb : ∀ k, t ≤ k → k < w.heap.size → w'.heap[k]? = w.heap[k]?) (hs : w.heap.size ≤ w'.heap.size) : TabOf ls w' t S m L := { h with tab := h.tab.same hb hs }
/-- add. -/
def addS (c : LC) (v : Int) (t : Nat) : LC ⊕ (Int × LC) :=
  if (t : Int) > c.f 2 + c.f 3 - (c.lens.length : Nat) then .inr (3, c)
  else if (t : Int) < c.f 2 + c.f 3 - (c.lens.length : Nat) then .inl { c with st := 4, lens := c.lens ++ List.replicate t v }
  else if chk ((c.lens ++ List.replicate t v).take (c.f 2).toNat) ((c.lens ++ List.replicate t v).drop (c.f 2).toNat) then .inl { c with st := 6, lens := c.lens ++ List.replicate t v }
  else .inr (3, { c with lens := c.lens ++ List.replicate t v })
/-- What holds of a machine that reads lengths. -/
structure LInv (c : LC) : Prop where
  st : 4 ≤ c.st
  l1 : 257 ≤ c.f 2
  l2 : c.f 2 ≤ 286
  d1 : 1 ≤ c.f 3
  d2 : c.f 3 ≤ 30
  n : (c.lens.length : Int) < c.f 2 + c.f 3
/-- nextLen. -/
def nextLenS (zs : List Int) (c : LC) (n : Nat) : LC ⊕ (Int × LC) :=
  if (nx3 c.tb (field (bnum zs) c.i n) n).1 = 1 then
    if (nx3 c.tb (field (bnum zs) c.i n) n).2.1 < 16 then addS { c with i := c.i + (nx3 c.tb (field (bnum zs) c.i n) n).2.2 } ((nx3 c.tb (field (bnum zs) c.i n) n).2.1 : Nat) 1
    else if (nx3 c.tb (field (bnum zs) c.i n) n).2.1 = 16 ∧ c.lens.length = 0 then .inr (3, { c with i := c.i + (nx3 c.tb (field (bnum zs) c.i n) n).2.2 })
    else .inl { c with st := 5, i := c.i + (nx3 c.tb (field (bnum zs) c.i n) n).2.2, f := upd c.f 27 ((nx3 c.tb (field (bnum zs) c.i n) n).2.1 : Nat) }
  else if (nx3 c.tb (field (bnum zs) c.i n) n).1 = 2 then .inr (2, c)
  else .inr (3, c)
/-- What add keeps to. -/
def AddOK (q p hB : Nat) (zs : List Int) (rdy : Value) : Prop := ∀ (c : LC) (v : Int) (t : Nat) (w : World), LMem q p hB zs rdy w c → LInv c → 1 ≤ t → t ≤ 138 →
  Calls Tryz.prog 186 #[.pointer (some ⟨q, 0, none⟩), .int .i64 v, .int .i64 (t : Nat)] w fun e w' => LPost q p hB zs rdy (addS c v t) e w w'
theorem LMem.slice {q p hB : Nat} {zs : List Int} {rdy : Value} {w : World} {c : LC} (h : LMem q p hB zs rdy w c) : ∃ lo cap, w.cell? ⟨q, 26, none⟩ = some (.slice lo c.lens.length cap) := by
  obtain ⟨B, v, b1, b2, b3, b4, b5, b6, b7, b8⟩ := h.own
  obtain ⟨_, x⟩ := b6
  rcases x with ⟨e, x⟩ | ⟨g, cap, cur, e, _⟩
  · exact ⟨none, 0, by rw [b5, e, x]⟩
  · exact ⟨_, cap, by rw [b5, e]⟩
theorem LMem.tab {q p hB : Nat} {zs : List Int} {rdy : Value} {w : World} {c : LC} (h : LMem q p hB zs rdy w c) (hs : 4 ≤ c.st) : ∃ t S m L, w.cell? ⟨q, 25, none⟩ = some (.pointer (some ⟨t, 0, none⟩)) ∧ TabOf c.tb w t S m L := by
  obtain ⟨B, v, b1, b2, b3, b4, b5, b6, b7, b8⟩ := h.own
  obtain ⟨t, S, m, L, w0, h1, h2, h3, h4, h5, h6⟩ := b8 hs
  exact ⟨t, S, m, L, h1, h2.same h6 (by omega)⟩
end Go.Proofs.YtbddkkfakkedaaaGreatDoor
namespace Go.Proofs.YtbddkkfakkedaaaGreatDoor
open Go.RowKit
attribute [local go_sem ↓] Go.wp_at_zero Go.wp_at_succ
set_option linter.unusedVariables false

theorem nx3_kinds (ls : List Int) (b n : Nat) : (nx3 ls b n).1 = 0 ∨ (nx3 ls b n).1 = 1 ∨ (nx3 ls b n).1 = 2 := by
  exact (nx3_is ls b n).kinds
theorem Trod.set27 {q p : Nat} {w : World} (v : Value) : Trod q p w (w.setCell ⟨q, 27, none⟩ v) := by
  have hc : ∀ o, o ≠ 27 → (w.setCell ⟨q, 27, none⟩ v).cell? ⟨q, o, none⟩ = w.cell? ⟨q, o, none⟩ := fun o ho => World.cell?_setCell_other _ _ _ _ (by first | (simp; done) | (simp; omega))
  have hg := grownBy_setCell w ⟨q, 27, none⟩ v
  refine ⟨hg.os, hg.tape, hg.output, hg.size, ?_, (fun o ho => hc o (by omega)), (fun v k h1 h2 => .inr ⟨v, (hc 26 (by omega)) ▸ h1, h2⟩)⟩
  intro j hj h1 _ _
  exact hg.block j hj (by simpa using h1)
set_option maxRecDepth 100000 in
set_option maxHeartbeats 1600000 in
theorem nextLen_any (q p hB : Nat) (zs : List Int) (rdy : Value) (c : LC) (n : Nat) (w : World) (hM : LMem q p hB zs rdy w c) (hI : LInv c) (hA : AddOK q p hB zs rdy) (hz : Octets zs) (hzl : zs.length ≤ 65536) (hn : Nat.min (8 * zs.length - c.i) 15 = n) (r : LC ⊕ (Int × LC)) (hr : nextLenS zs c n = r) :
    Calls Tryz.prog 182 #[.pointer (some ⟨q, 0, none⟩)] w fun e w' => LPost q p hB zs rdy r e w w' := by
  have hqw := hM.lt
  obtain ⟨t, S, m, L, h25, hT⟩ := hM.tab hI.st
  have hMd := hM.below ((Below.refl _ _).drew)
  have HSY := hideM (symbol_any q p hB t m S L c.tb zs c.i n w.drew hMd.c0 hM.ne hMd.rd (hT.below ((Below.refl _ _).drew)) hz hzl hn)
  unfold nextLenS at hr
  have hkd := nx3_kinds c.tb (field (bnum zs) c.i n) n
  rcases hx : nx3 c.tb (field (bnum zs) c.i n) n with ⟨k, s, l⟩
  rw [hx] at HSY hr hkd
  have HKD : Hid (k = 0 ∨ k = 1 ∨ k = 2) := hkd
  clear hkd
  simp only at hr
  have HR := hideM hr
  have HM := hideM hM
  have HI := hideM hI
  have HAD := hideM hA
  clear hr hM hI hA hMd hx hT
  by_cases hk1 : k = 1
  · subst hk1
    have HR1 : Hid ((if s < 16 then addS { c with i := c.i + l } (s : Nat) 1 else if s = 16 ∧ c.lens.length = 0 then .inr (3, { c with i := c.i + l }) else .inl { c with st := 5, i := c.i + l, f := upd c.f 27 (s : Nat) }) = r) := by
      have h := HR.out
      rw [if_pos rfl] at h
      exact h
    have HS1 : Hid (Calls Tryz.prog 156 #[.pointer (some ⟨q, 0, none⟩), .pointer (some ⟨t, 0, none⟩)] w.drew fun e w' => e = .returned (.tuple #[.int .i64 (s : Nat), .nilIface]) ∧ Rd w' p hB zs (c.i + l) ∧ w.drew.grownBy w' (some p)) := Calls.mono HSY.out (fun e w' h => h.1 rfl)
    clear HR HSY
    go_enter Tryz.func182, Tryz.ntmps182
    go_upto_region 1 with fail
    go_region_held3 (fun w' => w'.cell? ⟨q, 25, none⟩ = some (.pointer (some ⟨t, 0, none⟩)))
      (first | (with_reducible assumption) | (go_keep; done))
      ((go_at_call 156; refine Calls.mono HS1.out ?_; rintro e w2 ⟨rfl, hR2, hg2⟩; have k25 := hg2.cell (show w.drew.cell? ⟨q, 25, none⟩ = some (.pointer (some ⟨t, 0, none⟩)) from h25) (by have := HM.out.ne; simpa using this)))
    have hd : Below w.heap.size w w.drew := (Below.refl _ _).drew
    have hMd := HM.out.below hd
    have hM2 := hMd.went hR2 hg2
    have hT2 := (Trod.below (p := p) hqw hd).trans (Trod.num HM.out.ne hMd.lt hg2)
    have hI2 : LInv { c with i := c.i + l } := ⟨HI.out.st, HI.out.l1, HI.out.l2, HI.out.d1, HI.out.d2, HI.out.n⟩
    have HM2 := hideM hM2
    have HT2 := hideM hT2
    have hq2 := hM2.lt
    obtain ⟨lo, cap, c26⟩ := hM2.slice
    have c27 := hM2.num 27 (by unfold isNum; omega)
    have f27 := hM2.free 27
    have HA1 : Hid (Calls Tryz.prog 186 #[.pointer (some ⟨q, 0, none⟩), .int .i64 (s : Nat), .int .i64 1] w2 fun e w' => LPost q p hB zs rdy (addS { c with i := c.i + l } (s : Nat) 1) e w2 w') := HAD.out { c with i := c.i + l } (s : Nat) 1 w2 hM2 hI2 (by decide) (by decide)
    clear hM2 hT2 hI2 hMd hd hR2 hg2 k25 h25 HS1 HAD HM
    by_cases hs : s < 16
    · have hsb : decide ((s : Int) < 16) = true := decide_eq_true (by omega)
      have HX : Hid (r = addS { c with i := c.i + l } (s : Nat) 1) := by
        show _ = _
        rw [← HR1.out, if_pos hs]
      clear HR1
      generalize addS { c with i := c.i + l } (s : Nat) 1 = r1 at *
      go_upto_region 5 with fail
      go_wp2_with fail
      refine Calls.mono HA1.out ?_
      rintro e w3 hP
      rcases r1 with c' | ⟨kk, cf⟩
      · obtain ⟨rfl, hM3, hT3⟩ := hP.1 c' rfl
        have HF : Hid (LPost q p hB zs rdy r (.returned (.tuple #[lnow q rdy c'.st, .nilIface])) w w3) := by
          show LPost _ _ _ _ _ _ _ _ _
          rw [HX.out]
          exact LPost.ok rfl hM3 (HT2.out.trans hT3)
        clear hP hM3 hT3 HX HA1
        generalize lnow q rdy c'.st = V at *
        go_wp2_with fail
        exact bodyPost_ret (v := .tuple #[V, .nilIface]) (by simp [results, Tryz.results182, go_sem]) rfl HF.out
      · obtain ⟨V, rfl, hM3, hT3⟩ := hP.2 kk cf rfl
        have HF : Hid (LPost q p hB zs rdy r (.returned (.tuple #[V, flt kk])) w w3) := by
          show LPost _ _ _ _ _ _ _ _ _
          rw [HX.out]
          exact LPost.no hM3 (HT2.out.trans hT3)
        clear hP hM3 hT3 HX HA1
        generalize flt kk = V2 at *
        go_wp2_with fail
        exact bodyPost_ret (v := .tuple #[V, V2]) (by simp [results, Tryz.results182, go_sem]) rfl HF.out
    · have hsb : decide ((s : Int) < 16) = false := decide_eq_false (by omega)
      clear HA1
      by_cases h16 : s = 16 ∧ c.lens.length = 0
      · obtain ⟨rfl, h0⟩ := h16
        have HF : Hid (LPost q p hB zs rdy r (.returned (.tuple #[.nilFunc, flt 3])) w w2) := by
          show LPost _ _ _ _ _ _ _ _ _
          rw [← HR1.out, if_neg hs, if_pos ⟨rfl, h0⟩]
          exact LPost.no HM2.out HT2.out
        rw [show ({ c with i := c.i + l } : LC).lens.length = 0 from h0] at c26
        clear HR1 hs
        go_wp2_with fail
        exact bodyPost_ret (v := .tuple #[.nilFunc, flt 3]) (by simp [results, Tryz.results182, go_sem, flt]) rfl HF.out
      · have hM3 := (HM2.out.set 27 (by unfold isNum; omega) (s : Int)).at 5 (fun _ h => by omega) (fun _ => HI.out.st)
        have hT3 := HT2.out.trans (Trod.set27 (q := q) (p := p) (w := w2) (.int .i64 (s : Int)))
        have HF : Hid (LPost q p hB zs rdy r (.returned (.tuple #[.func (Fn.func 187) #[.pointer (some ⟨q, 0, none⟩)] #[], .nilIface])) w (w2.setCell ⟨q, 27, none⟩ (.int .i64 (s : Int)))) := by
          show LPost _ _ _ _ _ _ _ _ _
          rw [← HR1.out, if_neg hs, if_neg h16]
          exact LPost.ok rfl hM3 hT3
        clear HR1 hM3 hT3
        have c26' : w2.cell? ⟨q, 26, none⟩ = some (.slice lo c.lens.length cap) := c26
        generalize c.lens.length = N at *
        by_cases e16 : s = 16
        · subst e16
          have hN : ¬ N = 0 := fun h => h16 ⟨rfl, h⟩
          have hNb : ((N : Int) == 0) = false := by simp; omega
          clear h16 hs
          go_wp2_with fail
          exact bodyPost_ret (v := .tuple #[.func (Fn.func 187) #[.pointer (some ⟨q, 0, none⟩)] #[], .nilIface]) (by simp [results, Tryz.results182, go_sem]) rfl HF.out
        · have e16b : ((s : Int) == 16) = false := by simp; omega
          clear h16 hs
          go_wp2_with fail
          exact bodyPost_ret (v := .tuple #[.func (Fn.func 187) #[.pointer (some ⟨q, 0, none⟩)] #[], .nilIface]) (by simp [results, Tryz.results182, go_sem]) rfl HF.out
  · have hcl : ∃ d : Int, Hid (r = .inr (d, c)) ∧ Hid (Calls Tryz.prog 156 #[.pointer (some ⟨q, 0, none⟩), .pointer (some ⟨t, 0, none⟩)] w.drew fun e w' => e = .returned (.tuple #[.int .i64 0, flt d]) ∧ Below w.drew.heap.size w.drew w') := by
      rcases HKD.out with rfl | rfl | rfl
      · exact ⟨3, (HR.out.symm : r = _), Calls.mono HSY.out (fun e w' h => h.2.2 rfl)⟩
      · exact absurd rfl hk1
      · exact ⟨2, (HR.out.symm : r = _), Calls.mono HSY.out (fun e w' h => h.2.1 rfl)⟩
    obtain ⟨d, HX, HS1⟩ := hcl
    clear HR HSY HKD HAD hk1
    unfold flt at HS1
    go_enter Tryz.func182, Tryz.ntmps182
    go_upto_region 1 with fail
    go_region_held3 (fun w' => w'.cell? ⟨q, 25, none⟩ = some (.pointer (some ⟨t, 0, none⟩)))
      (first | (with_reducible assumption) | (go_keep; done))
      ((go_at_call 156; refine Calls.mono HS1.out ?_; rintro e w2 ⟨rfl, hb2⟩; have k25 := (hb2.cell (p := ⟨q, 25, none⟩) hqw).trans (show w.drew.cell? ⟨q, 25, none⟩ = some (.pointer (some ⟨t, 0, none⟩)) from h25)))
    have hB2 : Below w.heap.size w w2 := ((Below.refl _ _).drew).trans hb2
    have HF : Hid (LPost q p hB zs rdy r (.returned (.tuple #[.nilFunc, flt d])) w w2) := by
      show LPost _ _ _ _ _ _ _ _ _
      rw [HX.out]
      exact LPost.no (HM.out.below hB2) (Trod.below hqw hB2)
    clear hb2 hB2 HX HS1 k25
    go_wp2_with fail
    exact bodyPost_ret (v := .tuple #[.nilFunc, flt d]) (by simp [results, Tryz.results182, go_sem, flt]) rfl HF.out
end Go.Proofs.YtbddkkfakkedaaaGreatDoor
namespace Go.Proofs.YtbddkkfakkedaaaGreatDoor
open Go.RowKit
attribute [local go_sem ↓] Go.wp_at_zero Go.wp_at_succ
set_option linter.unusedVariables false

theorem LMem.last {q p hB : Nat} {zs : List Int} {rdy : Value} {w : World} {c : LC} (h : LMem q p hB zs rdy w c) (h0 : 0 < c.lens.length) : ∃ g cap, w.cell? ⟨q, 26, none⟩ = some (.slice (some ⟨g, 0, none⟩) c.lens.length cap) ∧ c.lens.length ≤ cap ∧ Row64 w (some ⟨g, 0, none⟩) c.lens := by
  obtain ⟨B, v, b1, b2, b3, b4, b5, b6, b7, b8⟩ := h.own
  have b6' := b6
  obtain ⟨_, x⟩ := b6'
  rcases x with ⟨e, x⟩ | ⟨g, cap, cur, e, _, _, hc, _⟩
  · omega
  · subst e
    exact ⟨g, cap, b5, hc, Row64.owned b6⟩
/-- The value, the least times and the further bits of a repeat. -/
def repV (c : LC) : Int := if c.f 27 = 16 then c.lens.getD (c.lens.length - 1) 0 else 0
def repT (c : LC) : Nat := if c.f 27 = 18 then 11 else 3
def repX (c : LC) : Nat := if c.f 27 = 16 then 2 else if c.f 27 = 18 then 7 else 3
/-- repeat. -/
def repeatS (zs : List Int) (c : LC) : LC ⊕ (Int × LC) := if c.i + repX c ≤ 8 * zs.length then addS { c with i := c.i + repX c } (repV c) (repT c + field (bnum zs) c.i (repX c)) else .inr (2, c)
set_option maxRecDepth 100000 in
set_option maxHeartbeats 1600000 in
theorem repeat_17 (q p hB : Nat) (zs : List Int) (rdy : Value) (c : LC) (w : World) (hM : LMem q p hB zs rdy w c) (hI : LInv c) (hA : AddOK q p hB zs rdy) (hz : Octets zs) (hzl : zs.length ≤ 65536) (hrep : c.f 27 = 17) (r : LC ⊕ (Int × LC)) (hr : repeatS zs c = r) :
    Calls Tryz.prog 187 #[.pointer (some ⟨q, 0, none⟩)] w fun e w' => LPost q p hB zs rdy r e w w' := by
  have hqw := hM.lt
  have hX : repX c = 3 := by unfold repX; rw [hrep]; rfl
  have hT : repT c = 3 := by unfold repT; rw [hrep]; rfl
  have hV : repV c = 0 := by unfold repV; rw [hrep]; rfl
  unfold repeatS at hr
  rw [hX, hT, hV] at hr
  have c27 := hM.num 27 (by unfold isNum; omega)
  rw [hrep] at c27
  have HM := hideM hM
  have HI := hideM hI
  have HAD := hideM hA
  have hd : Below w.heap.size w w.drew := (Below.refl _ _).drew
  by_cases hn : c.i + 3 ≤ 8 * zs.length
  · rw [if_pos hn] at hr
    have HR := hideM hr
    have hF := field_small (bnum zs) c.i 3 (by decide)
    have HN := hideM (fun W (hb : Below w.heap.size w W) => number_yes q p hB zs c.i 3 W (hM.below hb).c0 (hM.below hb).rd hz hzl (by decide) hn)
    generalize field (bnum zs) c.i 3 = F at *
    clear hr hM hI hA hn hX hT hV hrep hd
    go_enter Tryz.func187, Tryz.ntmps187
    go_wp2_with fail
    have hd : Below w.heap.size w w := Below.refl _ _
    refine Calls.mono (HN.out _ hd) ?_
    rintro e w2 ⟨rfl, hR2, hg2⟩
    have hMd := HM.out.below hd
    have hM2 := hMd.went hR2 hg2
    have hT2 := (Trod.below (p := p) hqw hd).trans (Trod.num HM.out.ne hMd.lt hg2)
    have hI2 : LInv { c with i := c.i + 3 } := ⟨HI.out.st, HI.out.l1, HI.out.l2, HI.out.d1, HI.out.d2, HI.out.n⟩
    have HT2 := hideM hT2
    have hq2 := hM2.lt
    have HA1 := hideM (HAD.out { c with i := c.i + 3 } (0) (3 + F) w2 hM2 hI2 (by omega) (by omega))
    rw [show (((3 + F : Nat)) : Int) = 3 + (F : Int) from by omega] at HA1
    generalize addS { c with i := c.i + 3 } (0) (3 + F) = r1 at *
    clear hM2 hT2 hI2 hMd hd hR2 hg2 HN HAD HM HI
    go_wp2_with fail
    refine Calls.mono HA1.out ?_
    rintro e w3 hP
    rcases r1 with c' | ⟨kk, cf⟩
    · obtain ⟨rfl, hM3, hT3⟩ := hP.1 c' rfl
      have HF : Hid (LPost q p hB zs rdy r (.returned (.tuple #[lnow q rdy c'.st, .nilIface])) w w3) := by
        show LPost _ _ _ _ _ _ _ _ _
        rw [← HR.out]
        exact LPost.ok rfl hM3 (HT2.out.trans hT3)
      clear hP hM3 hT3 HR HA1
      generalize lnow q rdy c'.st = V at *
      go_wp2_with fail
      exact bodyPost_ret (v := .tuple #[V, .nilIface]) (by simp [results, Tryz.results187, go_sem]) rfl HF.out
    · obtain ⟨V, rfl, hM3, hT3⟩ := hP.2 kk cf rfl
      have HF : Hid (LPost q p hB zs rdy r (.returned (.tuple #[V, flt kk])) w w3) := by
        show LPost _ _ _ _ _ _ _ _ _
        rw [← HR.out]
        exact LPost.no hM3 (HT2.out.trans hT3)
      clear hP hM3 hT3 HR HA1
      generalize flt kk = V2 at *
      go_wp2_with fail
      exact bodyPost_ret (v := .tuple #[V, V2]) (by simp [results, Tryz.results187, go_sem]) rfl HF.out
  · rw [if_neg hn] at hr
    have HR := hideM hr
    have HN := hideM (fun W (hb : Below w.heap.size w W) => number_no q p hB zs c.i 3 W (hM.below hb).c0 (hM.below hb).rd hzl (by decide) hn)
    unfold flt at HN
    clear hr hM hI hA hn hX hT hV hrep hd
    go_enter Tryz.func187, Tryz.ntmps187
    go_wp2_with fail
    have hd : Below w.heap.size w w := Below.refl _ _
    refine Calls.mono (HN.out _ hd) ?_
    rintro e w2 ⟨rfl, hb2⟩
    have hB2 := hd.trans (hb2.mono hd.size)
    have HF : Hid (LPost q p hB zs rdy r (.returned (.tuple #[.nilFunc, flt 2])) w w2) := by
      show LPost _ _ _ _ _ _ _ _ _
      rw [← HR.out]
      exact LPost.no (HM.out.below hB2) (Trod.below hqw hB2)
    clear hb2 hB2 HR HN hd
    go_wp2_with fail
    exact bodyPost_ret (v := .tuple #[.nilFunc, flt 2]) (by simp [results, Tryz.results187, go_sem, flt]) rfl HF.out
set_option maxRecDepth 100000 in
set_option maxHeartbeats 1600000 in
theorem repeat_18 (q p hB : Nat) (zs : List Int) (rdy : Value) (c : LC) (w : World) (hM : LMem q p hB zs rdy w c) (hI : LInv c) (hA : AddOK q p hB zs rdy) (hz : Octets zs) (hzl : zs.length ≤ 65536) (hrep : c.f 27 = 18) (r : LC ⊕ (Int × LC)) (hr : repeatS zs c = r) :
    Calls Tryz.prog 187 #[.pointer (some ⟨q, 0, none⟩)] w fun e w' => LPost q p hB zs rdy r e w w' := by
  have hqw := hM.lt
  have hX : repX c = 7 := by unfold repX; rw [hrep]; rfl
  have hT : repT c = 11 := by unfold repT; rw [hrep]; rfl
  have hV : repV c = 0 := by unfold repV; rw [hrep]; rfl
  unfold repeatS at hr
  rw [hX, hT, hV] at hr
  have c27 := hM.num 27 (by unfold isNum; omega)
  rw [hrep] at c27
  have HM := hideM hM
  have HI := hideM hI
  have HAD := hideM hA
  have hd : Below w.heap.size w w.drew := (Below.refl _ _).drew
  by_cases hn : c.i + 7 ≤ 8 * zs.length
  · rw [if_pos hn] at hr
    have HR := hideM hr
    have hF := field_small (bnum zs) c.i 7 (by decide)
    have HN := hideM (fun W (hb : Below w.heap.size w W) => number_yes q p hB zs c.i 7 W (hM.below hb).c0 (hM.below hb).rd hz hzl (by decide) hn)
    generalize field (bnum zs) c.i 7 = F at *
    clear hr hM hI hA hn hX hT hV hrep hd
    go_enter Tryz.func187, Tryz.ntmps187
    go_wp2_with fail
    have hd : Below w.heap.size w w := Below.refl _ _
    refine Calls.mono (HN.out _ hd) ?_
    rintro e w2 ⟨rfl, hR2, hg2⟩
    have hMd := HM.out.below hd
    have hM2 := hMd.went hR2 hg2
    have hT2 := (Trod.below (p := p) hqw hd).trans (Trod.num HM.out.ne hMd.lt hg2)
    have hI2 : LInv { c with i := c.i + 7 } := ⟨HI.out.st, HI.out.l1, HI.out.l2, HI.out.d1, HI.out.d2, HI.out.n⟩
    have HT2 := hideM hT2
    have hq2 := hM2.lt
    have HA1 := hideM (HAD.out { c with i := c.i + 7 } (0) (11 + F) w2 hM2 hI2 (by omega) (by omega))
    rw [show (((11 + F : Nat)) : Int) = 11 + (F : Int) from by omega] at HA1
    generalize addS { c with i := c.i + 7 } (0) (11 + F) = r1 at *
    clear hM2 hT2 hI2 hMd hd hR2 hg2 HN HAD HM HI
    go_wp2_with fail
    refine Calls.mono HA1.out ?_
    rintro e w3 hP
    rcases r1 with c' | ⟨kk, cf⟩
    · obtain ⟨rfl, hM3, hT3⟩ := hP.1 c' rfl
      have HF : Hid (LPost q p hB zs rdy r (.returned (.tuple #[lnow q rdy c'.st, .nilIface])) w w3) := by
        show LPost _ _ _ _ _ _ _ _ _
        rw [← HR.out]
        exact LPost.ok rfl hM3 (HT2.out.trans hT3)
      clear hP hM3 hT3 HR HA1
      generalize lnow q rdy c'.st = V at *
      go_wp2_with fail
      exact bodyPost_ret (v := .tuple #[V, .nilIface]) (by simp [results, Tryz.results187, go_sem]) rfl HF.out
    · obtain ⟨V, rfl, hM3, hT3⟩ := hP.2 kk cf rfl
      have HF : Hid (LPost q p hB zs rdy r (.returned (.tuple #[V, flt kk])) w w3) := by
        show LPost _ _ _ _ _ _ _ _ _
        rw [← HR.out]
        exact LPost.no hM3 (HT2.out.trans hT3)
      clear hP hM3 hT3 HR HA1
      generalize flt kk = V2 at *
      go_wp2_with fail
      exact bodyPost_ret (v := .tuple #[V, V2]) (by simp [results, Tryz.results187, go_sem]) rfl HF.out
  · rw [if_neg hn] at hr
    have HR := hideM hr
    have HN := hideM (fun W (hb : Below w.heap.size w W) => number_no q p hB zs c.i 7 W (hM.below hb).c0 (hM.below hb).rd hzl (by decide) hn)
    unfold flt at HN
    clear hr hM hI hA hn hX hT hV hrep hd
    go_enter Tryz.func187, Tryz.ntmps187
    go_wp2_with fail
    have hd : Below w.heap.size w w := Below.refl _ _
    refine Calls.mono (HN.out _ hd) ?_
    rintro e w2 ⟨rfl, hb2⟩
    have hB2 := hd.trans (hb2.mono hd.size)
    have HF : Hid (LPost q p hB zs rdy r (.returned (.tuple #[.nilFunc, flt 2])) w w2) := by
      show LPost _ _ _ _ _ _ _ _ _
      rw [← HR.out]
      exact LPost.no (HM.out.below hB2) (Trod.below hqw hB2)
    clear hb2 hB2 HR HN hd
    go_wp2_with fail
    exact bodyPost_ret (v := .tuple #[.nilFunc, flt 2]) (by simp [results, Tryz.results187, go_sem, flt]) rfl HF.out
set_option maxRecDepth 100000 in
set_option maxHeartbeats 1600000 in
theorem repeat_16 (q p hB : Nat) (zs : List Int) (rdy : Value) (c : LC) (w : World) (hM : LMem q p hB zs rdy w c) (hI : LInv c) (hA : AddOK q p hB zs rdy) (hz : Octets zs) (hzl : zs.length ≤ 65536) (hrep : c.f 27 = 16) (h0 : 0 < c.lens.length) (r : LC ⊕ (Int × LC)) (hr : repeatS zs c = r) :
    Calls Tryz.prog 187 #[.pointer (some ⟨q, 0, none⟩)] w fun e w' => LPost q p hB zs rdy r e w w' := by
  have hqw := hM.lt
  have hX : repX c = 2 := by unfold repX; rw [hrep]; rfl
  have hT : repT c = 3 := by unfold repT; rw [hrep]; rfl
  have hV : repV c = c.lens.getD (c.lens.length - 1) 0 := by unfold repV; rw [hrep]; rfl
  unfold repeatS at hr
  rw [hX, hT, hV] at hr
  have c27 := hM.num 27 (by unfold isNum; omega)
  rw [hrep] at c27
  obtain ⟨g, cap, c26, hcap, hrow⟩ := hM.last h0
  obtain ⟨bb, of, eb, hcx⟩ := hrow (c.lens.length - 1) (by omega)
  cases eb
  have hgw : g < w.heap.size := World.block_lt_of_cell? w _ hcx
  have hNm : c.lens.length ≤ 1000 := by have := hI.n; have := hI.l2; have := hI.d2; omega
  obtain ⟨N, hN⟩ : ∃ N, c.lens.length = N + 1 := ⟨c.lens.length - 1, by omega⟩
  rw [hN, show 0 + (N + 1 - 1) = N from by omega] at hcx
  rw [hN] at c26 hcap hNm
  have HH := hideM hrow
  obtain ⟨x, hx⟩ : ∃ x, c.lens.getD (N + 1 - 1) 0 = x := ⟨_, rfl⟩
  have hx' : c.lens.getD (c.lens.length - 1) 0 = x := by rw [hN]; exact hx
  rw [hx] at hcx
  rw [hx'] at hr
  clear hrow hx hx' h0 hN
  have HM := hideM hM
  have HI := hideM hI
  have HAD := hideM hA
  have hd : Below w.heap.size w w.drew := (Below.refl _ _).drew
  by_cases hn : c.i + 2 ≤ 8 * zs.length
  · rw [if_pos hn] at hr
    have HR := hideM hr
    have hF := field_small (bnum zs) c.i 2 (by decide)
    have HN := hideM (fun W (hb : Below w.heap.size w W) => number_yes q p hB zs c.i 2 W (hM.below hb).c0 (hM.below hb).rd hz hzl (by decide) hn)
    generalize field (bnum zs) c.i 2 = F at *
    clear hr hM hI hA hn hX hT hV hrep hd
    go_enter Tryz.func187, Tryz.ntmps187
    go_upto_region 4 with fail
    go_region
    go_wp2_with fail
    have hd : Below w.heap.size w w.drew := (Below.refl _ _).drew
    refine Calls.mono (HN.out _ hd) ?_
    rintro e w2 ⟨rfl, hR2, hg2⟩
    have hMd := HM.out.below hd
    have hM2 := hMd.went hR2 hg2
    have hT2 := (Trod.below (p := p) hqw hd).trans (Trod.num HM.out.ne hMd.lt hg2)
    have hI2 : LInv { c with i := c.i + 2 } := ⟨HI.out.st, HI.out.l1, HI.out.l2, HI.out.d1, HI.out.d2, HI.out.n⟩
    have HT2 := hideM hT2
    have hq2 := hM2.lt
    have HA1 := hideM (HAD.out { c with i := c.i + 2 } x (3 + F) w2 hM2 hI2 (by omega) (by omega))
    rw [show (((3 + F : Nat)) : Int) = 3 + (F : Int) from by omega] at HA1
    generalize addS { c with i := c.i + 2 } x (3 + F) = r1 at *
    clear hM2 hT2 hI2 hMd hd hR2 hg2 HN HAD HM HI
    go_wp2_with fail
    refine Calls.mono HA1.out ?_
    rintro e w3 hP
    rcases r1 with c' | ⟨kk, cf⟩
    · obtain ⟨rfl, hM3, hT3⟩ := hP.1 c' rfl
      have HF : Hid (LPost q p hB zs rdy r (.returned (.tuple #[lnow q rdy c'.st, .nilIface])) w w3) := by
        show LPost _ _ _ _ _ _ _ _ _
        rw [← HR.out]
        exact LPost.ok rfl hM3 (HT2.out.trans hT3)
      clear hP hM3 hT3 HR HA1
      generalize lnow q rdy c'.st = V at *
      go_wp2_with fail
      exact bodyPost_ret (v := .tuple #[V, .nilIface]) (by simp [results, Tryz.results187, go_sem]) rfl HF.out
    · obtain ⟨V, rfl, hM3, hT3⟩ := hP.2 kk cf rfl
      have HF : Hid (LPost q p hB zs rdy r (.returned (.tuple #[V, flt kk])) w w3) := by
        show LPost _ _ _ _ _ _ _ _ _
        rw [← HR.out]
        exact LPost.no hM3 (HT2.out.trans hT3)
      clear hP hM3 hT3 HR HA1
      generalize flt kk = V2 at *
      go_wp2_with fail
      exact bodyPost_ret (v := .tuple #[V, V2]) (by simp [results, Tryz.results187, go_sem]) rfl HF.out
  · rw [if_neg hn] at hr
    have HR := hideM hr
    have HN := hideM (fun W (hb : Below w.heap.size w W) => number_no q p hB zs c.i 2 W (hM.below hb).c0 (hM.below hb).rd hzl (by decide) hn)
    unfold flt at HN
    clear hr hM hI hA hn hX hT hV hrep hd
    go_enter Tryz.func187, Tryz.ntmps187
    go_upto_region 4 with fail
    go_region
    go_wp2_with fail
    have hd : Below w.heap.size w w.drew := (Below.refl _ _).drew
    refine Calls.mono (HN.out _ hd) ?_
    rintro e w2 ⟨rfl, hb2⟩
    have hB2 := hd.trans (hb2.mono hd.size)
    have HF : Hid (LPost q p hB zs rdy r (.returned (.tuple #[.nilFunc, flt 2])) w w2) := by
      show LPost _ _ _ _ _ _ _ _ _
      rw [← HR.out]
      exact LPost.no (HM.out.below hB2) (Trod.below hqw hB2)
    clear hb2 hB2 HR HN hd
    go_wp2_with fail
    exact bodyPost_ret (v := .tuple #[.nilFunc, flt 2]) (by simp [results, Tryz.results187, go_sem, flt]) rfl HF.out
end Go.Proofs.YtbddkkfakkedaaaGreatDoor
