import Derived.Test.YtboniidgoepdcaaGreatDoorEBF
namespace Go.Proofs.YtboniidgoepdcaaGreatDoor
open Go.RowKit
attribute [local go_sem ↓] Go.wp_at_zero Go.wp_at_succ
set_option linter.unusedVariables false

theorem LMem.last {q p hB : Nat} {zs : List Int} {rdy : Value} {w : World} {c : LC} (h : LMem q p hB zs rdy w c) (h0 : 0 < c.lens.length) : ∃ g cap, w.cell? ⟨q, 26, none⟩ = some (.slice (some ⟨g, 0, none⟩) c.lens.length cap) ∧ c.lens.length ≤ cap ∧ Row64 w (some ⟨g, 0, none⟩) c.lens := by
  obtain ⟨B, v, b1, b2, b3, b4, b5, b6, b7, b8⟩ := h.own
  have b6' := b6
  obtain ⟨_, x⟩ := b6'
  rcases x with ⟨e, x⟩ | ⟨g, cap, cur, e, _, _, hc, _⟩
  · omega
  · subst e
    exact ⟨g, cap, b5, hc, Row64.owned b6⟩
/-- The value, the least times and the further bits of a repeat. -/
def repV (c : LC) : Int := if c.f 27 = 16 then c.lens.getD (c.lens.length - 1) 0 else 0
def repT (c : LC) : Nat := if c.f 27 = 18 then 11 else 3
def repX (c : LC) : Nat := if c.f 27 = 16 then 2 else if c.f 27 = 18 then 7 else 3
/-- repeat. -/
def repeatS (zs : List Int) (c : LC) : LC ⊕ (Int × LC) := if c.i + repX c ≤ 8 * zs.length then addS { c with i := c.i + repX c } (repV c) (repT c + field (bnum zs) c.i (repX c)) else .inr (2, c)
set_option maxRecDepth 100000 in
set_option maxHeartbeats 1600000 in
theorem repeat_17 (q p hB : Nat) (zs : List Int) (rdy : Value) (c : LC) (w : World) (hM : LMem q p hB zs rdy w c) (hI : LInv c) (hA : AddOK q p hB zs rdy) (hz : Octets zs) (hzl : zs.length ≤ 65536) (hrep : c.f 27 = 17) (r : LC ⊕ (Int × LC)) (hr : repeatS zs c = r) :
    Calls Tryz.prog 97 #[.pointer (some ⟨q, 0, none⟩)] w fun e w' => LPost q p hB zs rdy r e w w' := by
  have hqw := hM.lt
  have hX : repX c = 3 := by unfold repX; rw [hrep]; rfl
  have hT : repT c = 3 := by unfold repT; rw [hrep]; rfl
  have hV : repV c = 0 := by unfold repV; rw [hrep]; rfl
  unfold repeatS at hr
  rw [hX, hT, hV] at hr
  have c27 := hM.num 27 (by unfold isNum; omega)
  rw [hrep] at c27
  have HM := hideM hM
  have HI := hideM hI
  have HAD := hideM hA
  have hd : Below w.heap.size w w.drew := (Below.refl _ _).drew
  by_cases hn : c.i + 3 ≤ 8 * zs.length
  · rw [if_pos hn] at hr
    have HR := hideM hr
    have hF := field_small (bnum zs) c.i 3 (by decide)
    have HN := hideM (fun W (hb : Below w.heap.size w W) => number_yes q p hB zs c.i 3 W (hM.below hb).c0 (hM.below hb).rd hz hzl (by decide) hn)
    generalize field (bnum zs) c.i 3 = F at *
    clear hr hM hI hA hn hX hT hV hrep hd
    go_enter Tryz.func97, Tryz.ntmps97
    go_wp2_with fail
    have hd : Below w.heap.size w w := Below.refl _ _
    refine Calls.mono (HN.out _ hd) ?_
    rintro e w2 ⟨rfl, hR2, hg2⟩
    have hMd := HM.out.below hd
    have hM2 := hMd.went hR2 hg2
    have hT2 := (Trod.below (p := p) hqw hd).trans (Trod.num HM.out.ne hMd.lt hg2)
    have hI2 : LInv { c with i := c.i + 3 } := ⟨HI.out.st, HI.out.l1, HI.out.l2, HI.out.d1, HI.out.d2, HI.out.n⟩
    have HT2 := hideM hT2
    have hq2 := hM2.lt
    have HA1 := hideM (HAD.out { c with i := c.i + 3 } (0) (3 + F) w2 hM2 hI2 (by omega) (by omega))
    rw [show (((3 + F : Nat)) : Int) = 3 + (F : Int) from by omega] at HA1
    generalize addS { c with i := c.i + 3 } (0) (3 + F) = r1 at *
    clear hM2 hT2 hI2 hMd hd hR2 hg2 HN HAD HM HI
    go_wp2_with fail
    refine Calls.mono HA1.out ?_
    rintro e w3 hP
    rcases r1 with c' | ⟨kk, cf⟩
    · obtain ⟨rfl, hM3, hT3⟩ := hP.1 c' rfl
      have HF : Hid (LPost q p hB zs rdy r (.returned (.tuple #[lnow q rdy c'.st, .nilIface])) w w3) := by
        show LPost _ _ _ _ _ _ _ _ _
        rw [← HR.out]
        exact LPost.ok rfl hM3 (HT2.out.trans hT3)
      clear hP hM3 hT3 HR HA1
      generalize lnow q rdy c'.st = V at *
      go_wp2_with fail
      exact bodyPost_ret (v := .tuple #[V, .nilIface]) (by simp [results, Tryz.results97, go_sem]) rfl HF.out
    · obtain ⟨V, rfl, hM3, hT3⟩ := hP.2 kk cf rfl
      have HF : Hid (LPost q p hB zs rdy r (.returned (.tuple #[V, flt kk])) w w3) := by
        show LPost _ _ _ _ _ _ _ _ _
        rw [← HR.out]
        exact LPost.no hM3 (HT2.out.trans hT3)
      clear hP hM3 hT3 HR HA1
      generalize flt kk = V2 at *
      go_wp2_with fail
      exact bodyPost_ret (v := .tuple #[V, V2]) (by simp [results, Tryz.results97, go_sem]) rfl HF.out
  · rw [if_neg hn] at hr
    have HR := hideM hr
    have HN := hideM (fun W (hb : Below w.heap.size w W) => number_no q p hB zs c.i 3 W (hM.below hb).c0 (hM.below hb).rd hzl (by decide) hn)
    unfold flt at HN
    clear hr hM hI hA hn hX hT hV hrep hd
    go_enter Tryz.func97, Tryz.ntmps97
    go_wp2_with fail
    have hd : Below w.heap.size w w := Below.refl _ _
    refine Calls.mono (HN.out _ hd) ?_
    rintro e w2 ⟨rfl, hb2⟩
    have hB2 := hd.trans (hb2.mono hd.size)
    have HF : Hid (LPost q p hB zs rdy r (.returned (.tuple #[.nilFunc, flt 2])) w w2) := by
      show LPost _ _ _ _ _ _ _ _ _
      rw [← HR.out]
      exact LPost.no (HM.out.below hB2) (Trod.below hqw hB2)
    clear hb2 hB2 HR HN hd
    go_wp2_with fail
    exact bodyPost_ret (v := .tuple #[.nilFunc, flt 2]) (by simp [results, Tryz.results97, go_sem, flt]) rfl HF.out
set_option maxRecDepth 100000 in
set_option maxHeartbeats 1600000 in
theorem repeat_18 (q p hB : Nat) (zs : List Int) (rdy : Value) (c : LC) (w : World) (hM : LMem q p hB zs rdy w c) (hI : LInv c) (hA : AddOK q p hB zs rdy) (hz : Octets zs) (hzl : zs.length ≤ 65536) (hrep : c.f 27 = 18) (r : LC ⊕ (Int × LC)) (hr : repeatS zs c = r) :
    Calls Tryz.prog 97 #[.pointer (some ⟨q, 0, none⟩)] w fun e w' => LPost q p hB zs rdy r e w w' := by
  have hqw := hM.lt
  have hX : repX c = 7 := by unfold repX; rw [hrep]; rfl
  have hT : repT c = 11 := by unfold repT; rw [hrep]; rfl
  have hV : repV c = 0 := by unfold repV; rw [hrep]; rfl
  unfold repeatS at hr
  rw [hX, hT, hV] at hr
  have c27 := hM.num 27 (by unfold isNum; omega)
  rw [hrep] at c27
  have HM := hideM hM
  have HI := hideM hI
  have HAD := hideM hA
  have hd : Below w.heap.size w w.drew := (Below.refl _ _).drew
  by_cases hn : c.i + 7 ≤ 8 * zs.length
  · rw [if_pos hn] at hr
    have HR := hideM hr
    have hF := field_small (bnum zs) c.i 7 (by decide)
    have HN := hideM (fun W (hb : Below w.heap.size w W) => number_yes q p hB zs c.i 7 W (hM.below hb).c0 (hM.below hb).rd hz hzl (by decide) hn)
    generalize field (bnum zs) c.i 7 = F at *
    clear hr hM hI hA hn hX hT hV hrep hd
    go_enter Tryz.func97, Tryz.ntmps97
    go_wp2_with fail
    have hd : Below w.heap.size w w := Below.refl _ _
    refine Calls.mono (HN.out _ hd) ?_
    rintro e w2 ⟨rfl, hR2, hg2⟩
    have hMd := HM.out.below hd
    have hM2 := hMd.went hR2 hg2
    have hT2 := (Trod.below (p := p) hqw hd).trans (Trod.num HM.out.ne hMd.lt hg2)
    have hI2 : LInv { c with i := c.i + 7 } := ⟨HI.out.st, HI.out.l1, HI.out.l2, HI.out.d1, HI.out.d2, HI.out.n⟩
    have HT2 := hideM hT2
    have hq2 := hM2.lt
    have HA1 := hideM (HAD.out { c with i := c.i + 7 } (0) (11 + F) w2 hM2 hI2 (by omega) (by omega))
    rw [show (((11 + F : Nat)) : Int) = 11 + (F : Int) from by omega] at HA1
    generalize addS { c with i := c.i + 7 } (0) (11 + F) = r1 at *
    clear hM2 hT2 hI2 hMd hd hR2 hg2 HN HAD HM HI
    go_wp2_with fail
    refine Calls.mono HA1.out ?_
    rintro e w3 hP
    rcases r1 with c' | ⟨kk, cf⟩
    · obtain ⟨rfl, hM3, hT3⟩ := hP.1 c' rfl
      have HF : Hid (LPost q p hB zs rdy r (.returned (.tuple #[lnow q rdy c'.st, .nilIface])) w w3) := by
        show LPost _ _ _ _ _ _ _ _ _
        rw [← HR.out]
        exact LPost.ok rfl hM3 (HT2.out.trans hT3)
      clear hP hM3 hT3 HR HA1
      generalize lnow q rdy c'.st = V at *
      go_wp2_with fail
      exact bodyPost_ret (v := .tuple #[V, .nilIface]) (by simp [results, Tryz.results97, go_sem]) rfl HF.out
    · obtain ⟨V, rfl, hM3, hT3⟩ := hP.2 kk cf rfl
      have HF : Hid (LPost q p hB zs rdy r (.returned (.tuple #[V, flt kk])) w w3) := by
        show LPost _ _ _ _ _ _ _ _ _
        rw [← HR.out]
        exact LPost.no hM3 (HT2.out.trans hT3)
      clear hP hM3 hT3 HR HA1
      generalize flt kk = V2 at *
      go_wp2_with fail
      exact bodyPost_ret (v := .tuple #[V, V2]) (by simp [results, Tryz.results97, go_sem]) rfl HF.out
  · rw [if_neg hn] at hr
    have HR := hideM hr
    have HN := hideM (fun W (hb : Below w.heap.size w W) => number_no q p hB zs c.i 7 W (hM.below hb).c0 (hM.below hb).rd hzl (by decide) hn)
    unfold flt at HN
    clear hr hM hI hA hn hX hT hV hrep hd
    go_enter Tryz.func97, Tryz.ntmps97
    go_wp2_with fail
    have hd : Below w.heap.size w w := Below.refl _ _
    refine Calls.mono (HN.out _ hd) ?_
    rintro e w2 ⟨rfl, hb2⟩
    have hB2 := hd.trans (hb2.mono hd.size)
    have HF : Hid (LPost q p hB zs rdy r (.returned (.tuple #[.nilFunc, flt 2])) w w2) := by
      show LPost _ _ _ _ _ _ _ _ _
      rw [← HR.out]
      exact LPost.no (HM.out.below hB2) (Trod.below hqw hB2)
    clear hb2 hB2 HR HN hd
    go_wp2_with fail
    exact bodyPost_ret (v := .tuple #[.nilFunc, flt 2]) (by simp [results, Tryz.results97, go_sem, flt]) rfl HF.out
set_option maxRecDepth 100000 in
set_option maxHeartbeats 1600000 in
theorem repeat_16 (q p hB : Nat) (zs : List Int) (rdy : Value) (c : LC) (w : World) (hM : LMem q p hB zs rdy w c) (hI : LInv c) (hA : AddOK q p hB zs rdy) (hz : Octets zs) (hzl : zs.length ≤ 65536) (hrep : c.f 27 = 16) (h0 : 0 < c.lens.length) (r : LC ⊕ (Int × LC)) (hr : repeatS zs c = r) :
    Calls Tryz.prog 97 #[.pointer (some ⟨q, 0, none⟩)] w fun e w' => LPost q p hB zs rdy r e w w' := by
  have hqw := hM.lt
  have hX : repX c = 2 := by unfold repX; rw [hrep]; rfl
  have hT : repT c = 3 := by unfold repT; rw [hrep]; rfl
  have hV : repV c = c.lens.getD (c.lens.length - 1) 0 := by unfold repV; rw [hrep]; rfl
  unfold repeatS at hr
  rw [hX, hT, hV] at hr
  have c27 := hM.num 27 (by unfold isNum; omega)
  rw [hrep] at c27
  obtain ⟨g, cap, c26, hcap, hrow⟩ := hM.last h0
  obtain ⟨bb, of, eb, hcx⟩ := hrow (c.lens.length - 1) (by omega)
  cases eb
  have hgw : g < w.heap.size := World.block_lt_of_cell? w _ hcx
  have hNm : c.lens.length ≤ 1000 := by have := hI.n; have := hI.l2; have := hI.d2; omega
  obtain ⟨N, hN⟩ : ∃ N, c.lens.length = N + 1 := ⟨c.lens.length - 1, by omega⟩
  rw [hN, show 0 + (N + 1 - 1) = N from by omega] at hcx
  rw [hN] at c26 hcap hNm
  have HH := hideM hrow
  obtain ⟨x, hx⟩ : ∃ x, c.lens.getD (N + 1 - 1) 0 = x := ⟨_, rfl⟩
  have hx' : c.lens.getD (c.lens.length - 1) 0 = x := by rw [hN]; exact hx
  rw [hx] at hcx
  rw [hx'] at hr
  clear hrow hx hx' h0 hN
  have HM := hideM hM
  have HI := hideM hI
  have HAD := hideM hA
  have hd : Below w.heap.size w w.drew := (Below.refl _ _).drew
  by_cases hn : c.i + 2 ≤ 8 * zs.length
  · rw [if_pos hn] at hr
    have HR := hideM hr
    have hF := field_small (bnum zs) c.i 2 (by decide)
    have HN := hideM (fun W (hb : Below w.heap.size w W) => number_yes q p hB zs c.i 2 W (hM.below hb).c0 (hM.below hb).rd hz hzl (by decide) hn)
    generalize field (bnum zs) c.i 2 = F at *
    clear hr hM hI hA hn hX hT hV hrep hd
    go_enter Tryz.func97, Tryz.ntmps97
    go_upto_region 4 with fail
    go_region
    go_wp2_with fail
    have hd : Below w.heap.size w w.drew := (Below.refl _ _).drew
    refine Calls.mono (HN.out _ hd) ?_
    rintro e w2 ⟨rfl, hR2, hg2⟩
    have hMd := HM.out.below hd
    have hM2 := hMd.went hR2 hg2
    have hT2 := (Trod.below (p := p) hqw hd).trans (Trod.num HM.out.ne hMd.lt hg2)
    have hI2 : LInv { c with i := c.i + 2 } := ⟨HI.out.st, HI.out.l1, HI.out.l2, HI.out.d1, HI.out.d2, HI.out.n⟩
    have HT2 := hideM hT2
    have hq2 := hM2.lt
    have HA1 := hideM (HAD.out { c with i := c.i + 2 } x (3 + F) w2 hM2 hI2 (by omega) (by omega))
    rw [show (((3 + F : Nat)) : Int) = 3 + (F : Int) from by omega] at HA1
    generalize addS { c with i := c.i + 2 } x (3 + F) = r1 at *
    clear hM2 hT2 hI2 hMd hd hR2 hg2 HN HAD HM HI
    go_wp2_with fail
    refine Calls.mono HA1.out ?_
    rintro e w3 hP
    rcases r1 with c' | ⟨kk, cf⟩
    · obtain ⟨rfl, hM3, hT3⟩ := hP.1 c' rfl
      have HF : Hid (LPost q p hB zs rdy r (.returned (.tuple #[lnow q rdy c'.st, .nilIface])) w w3) := by
        show LPost _ _ _ _ _ _ _ _ _
        rw [← HR.out]
        exact LPost.ok rfl hM3 (HT2.out.trans hT3)
      clear hP hM3 hT3 HR HA1
      generalize lnow q rdy c'.st = V at *
      go_wp2_with fail
      exact bodyPost_ret (v := .tuple #[V, .nilIface]) (by simp [results, Tryz.results97, go_sem]) rfl HF.out
    · obtain ⟨V, rfl, hM3, hT3⟩ := hP.2 kk cf rfl
      have HF : Hid (LPost q p hB zs rdy r (.returned (.tuple #[V, flt kk])) w w3) := by
        show LPost _ _ _ _ _ _ _ _ _
        rw [← HR.out]
        exact LPost.no hM3 (HT2.out.trans hT3)
      clear hP hM3 hT3 HR HA1
      generalize flt kk = V2 at *
      go_wp2_with fail
      exact bodyPost_ret (v := .tuple #[V, V2]) (by simp [results, Tryz.results97, go_sem]) rfl HF.out
  · rw [if_neg hn] at hr
    have HR := hideM hr
    have HN := hideM (fun W (hb : Below w.heap.size w W) => number_no q p hB zs c.i 2 W (hM.below hb).c0 (hM.below hb).rd hzl (by decide) hn)
    unfold flt at HN
    clear hr hM hI hA hn hX hT hV hrep hd
    go_enter Tryz.func97, Tryz.ntmps97
    go_upto_region 4 with fail
    go_region
    go_wp2_with fail
    have hd : Below w.heap.size w w.drew := (Below.refl _ _).drew
    refine Calls.mono (HN.out _ hd) ?_
    rintro e w2 ⟨rfl, hb2⟩
    have hB2 := hd.trans (hb2.mono hd.size)
    have HF : Hid (LPost q p hB zs rdy r (.returned (.tuple #[.nilFunc, flt 2])) w w2) := by
      show LPost _ _ _ _ _ _ _ _ _
      rw [← HR.out]
      exact LPost.no (HM.out.below hB2) (Trod.below hqw hB2)
    clear hb2 hB2 HR HN hd
    go_wp2_with fail
    exact bodyPost_ret (v := .tuple #[.nilFunc, flt 2]) (by simp [results, Tryz.results97, go_sem, flt]) rfl HF.out
end Go.Proofs.YtboniidgoepdcaaGreatDoor
