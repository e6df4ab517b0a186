import Derived.BigRegion
import Derived.Test.YtboniidgoepdcaaGreatDoorEBD
namespace Go.Proofs.YtboniidgoepdcaaGreatDoor
open Go.RowKit
attribute [local go_sem ↓] Go.wp_at_zero Go.wp_at_succ
set_option linter.unusedVariables false

/-- The numbers behind one more length of the code of lengths. -/
def cl1 (f : Nat → Int) (F : Nat) : Nat → Int := upd (upd f (5 + ord19 (f 24).toNat) (F : Int)) 24 (f 24 + 1)
/-- codeLen. -/
def codeLenS (zs : List Int) (c : LC) : LC ⊕ (Int × LC) :=
  if c.i + 3 ≤ 8 * zs.length then
    if c.f 24 + 1 < c.f 4 then .inl { c with st := 3, i := c.i + 3, f := cl1 c.f (field (bnum zs) c.i 3) }
    else if hk (cl19 (cl1 c.f (field (bnum zs) c.i 3))) = 1 then .inl { c with st := 4, i := c.i + 3, f := cl1 c.f (field (bnum zs) c.i 3), tb := cl19 (cl1 c.f (field (bnum zs) c.i 3)) }
    else .inr (3, { c with i := c.i + 3, f := cl1 c.f (field (bnum zs) c.i 3) })
  else .inr (2, c)
theorem ord19_le (k : Nat) (h : k < 19) : ord19 k < 19 := by
  have h3 : k = 0 ∨ k = 1 ∨ k = 2 ∨ k = 3 ∨ k = 4 ∨ k = 5 ∨ k = 6 ∨ k = 7 ∨ k = 8 ∨ k = 9 ∨ k = 10 ∨ k = 11 ∨ k = 12 ∨ k = 13 ∨ k = 14 ∨ k = 15 ∨ k = 16 ∨ k = 17 ∨ k = 18 := by omega
  rcases h3 with rfl | rfl | rfl | rfl | rfl | rfl | rfl | rfl | rfl | rfl | rfl | rfl | rfl | rfl | rfl | rfl | rfl | rfl | rfl <;> decide
set_option maxRecDepth 100000 in
set_option maxHeartbeats 1600000 in
theorem codeLen_any (q p hB : Nat) (zs : List Int) (rdy : Value) (c : LC) (k : Nat) (w : World) (hM : LMem q p hB zs rdy w c) (hs : c.st = 3) (hk : c.f 24 = (k : Int)) (hk19 : k < 19) (hz : Octets zs) (hzl : zs.length ≤ 65536) (r : LC ⊕ (Int × LC)) (hr : codeLenS zs c = r) :
    Calls Tryz.prog 88 #[.pointer (some ⟨q, 0, none⟩)] w fun e w' => LPost q p hB zs rdy r e w w' := by
  have hqw := hM.lt
  have HM := hideM hM
  have HS := hideM hs
  have HR := hideM hr
  have HK := hideM hk
  clear hs hr hk
  by_cases hn : c.i + 3 ≤ 8 * zs.length
  · have HN := hideM (number_yes q p hB zs c.i 3 w hM.c0 hM.rd hz hzl (by decide) hn)
    have hF := field_small (bnum zs) c.i 3 (by decide)
    have HIN := hideM hn
    obtain ⟨F, hFe⟩ : ∃ F, field (bnum zs) c.i 3 = F := ⟨_, rfl⟩
    rw [hFe] at HN hF
    have HF := hideM hFe
    clear hM hn hFe
    go_enter Tryz.func88, Tryz.ntmps88
    go_wp2_with fail
    refine Calls.mono HN.out ?_
    rintro e w1 ⟨rfl, hR, hg⟩
    have hM1 := HM.out.went hR hg
    have c24 : w1.cell? ⟨q, 24, none⟩ = some (.int .i64 (k : Int)) := by
      rw [hM1.num 24 (by unfold isNum; omega)]
      show some (Value.int .i64 (c.f 24)) = _
      rw [HK.out]
    have g1 := hM1.g1 k hk19
    have ho := ord19_le k hk19
    have cO := hM1.num (5 + ord19 k) (by unfold isNum; omega)
    have fO := hM1.free (5 + ord19 k)
    have hq1 := hM1.lt
    have h2 := hM1.two
    have HO : Hid (ord19 k = ord19 k) := rfl
    generalize hog : ord19 k = o at *
    have HOG := hideM hog
    have HM1 := hideM hM1
    have HT1 := hideM (Trod.num HM.out.ne hqw hg)
    clear hM1 hR hg HN HM hog HO
    go_upto_region 4 with fail
    go_region
    go_upto_region 5 with fail
    have hM2 := (HM1.out.set (5 + o) (by unfold isNum; omega) (F : Int)).below ((Below.refl _ _).drew)
    have hT2 : Trod q p w (w1.setCell ⟨q, 5 + o, none⟩ (.int .i64 (F : Int))).drew := (HT1.out.trans (Trod.set (5 + o) (.int .i64 (F : Int)) (by omega))).trans (Trod.below hM2.lt ((Below.refl _ _).drew))
    generalize (w1.setCell ⟨q, 5 + o, none⟩ (.int .i64 (F : Int))).drew = w2 at *
    have d24 : w2.cell? ⟨q, 24, none⟩ = some (.int .i64 (k : Int)) := by
      rw [hM2.num 24 (by unfold isNum; omega)]
      show some (Value.int .i64 (upd c.f (5 + o) F 24)) = _
      rw [upd, if_neg (by omega), HK.out]
    have d4 : w2.cell? ⟨q, 4, none⟩ = some (.int .i64 (c.f 4)) := by
      rw [hM2.num 4 (by unfold isNum; omega)]
      show some (Value.int .i64 (upd c.f (5 + o) F 4)) = _
      rw [upd, if_neg (by omega)]
    have f24 := hM2.free 24
    have hq2 := hM2.lt
    have hM3 := (hM2.set 24 (by unfold isNum; omega) ((k : Int) + 1)).below ((Below.refl _ _).drew)
    have HT3 : Hid (Trod q p w (w2.setCell ⟨q, 24, none⟩ (.int .i64 ((k : Int) + 1))).drew) := (hT2.trans (Trod.set 24 (.int .i64 ((k : Int) + 1)) (by omega))).trans (Trod.below hM3.lt ((Below.refl _ _).drew))
    have hf3 : cl1 c.f F = upd (upd c.f (5 + o) F) 24 ((k : Int) + 1) := by
      unfold cl1
      rw [HK.out, Int.toNat_natCast, HOG.out]
    have HM3 : Hid (LMem q p hB zs rdy (w2.setCell ⟨q, 24, none⟩ (.int .i64 ((k : Int) + 1))).drew { c with i := c.i + 3, f := cl1 c.f F }) := by
      show LMem q p hB zs rdy _ _
      rw [hf3]
      exact hM3
    have HC : Hid (codeLenS zs c = if (k : Int) + 1 < c.f 4 then .inl { c with st := 3, i := c.i + 3, f := cl1 c.f F } else if hk (cl19 (cl1 c.f F)) = 1 then .inl { c with st := 4, i := c.i + 3, f := cl1 c.f F, tb := cl19 (cl1 c.f F) } else .inr (3, { c with i := c.i + 3, f := cl1 c.f F })) := by
      show _ = _
      unfold codeLenS
      rw [if_pos HIN.out, HF.out, HK.out]
    clear hM2 hM3 hT2 hf3 c24 g1 cO fO hq1 HM1 HT1 HOG ho
    generalize c.f 4 = n4 at *
    go_upto_region 6 with fail
    by_cases hlt : (k : Int) + 1 < n4
    · have hltb : decide ((k : Int) + 1 < n4) = true := decide_eq_true hlt
      have HX : Hid (r = .inl { c with st := 3, i := c.i + 3, f := cl1 c.f F }) := by
        show _ = _
        rw [← HR.out, HC.out, if_pos hlt]
      have HM4 := hideM (HM3.out.at 3 (fun _ _ => by show 1 ≤ c.st ∧ c.st ≤ 3; rw [HS.out]; omega) (fun h => by omega))
      go_region
      go_wp2_with fail
      exact bodyPost_ret (v := .tuple #[.func (Fn.func 88) #[.pointer (some ⟨q, 0, none⟩)] #[], .nilIface]) (by simp [results, Tryz.results88, go_sem]) rfl (by rw [HX.out]; exact LPost.ok rfl HM4.out HT3.out)
    · have hltb : decide ((k : Int) + 1 < n4) = false := decide_eq_false hlt
      have HY : Hid (r = if hk (cl19 (cl1 c.f F)) = 1 then .inl { c with st := 4, i := c.i + 3, f := cl1 c.f F, tb := cl19 (cl1 c.f F) } else .inr (3, { c with i := c.i + 3, f := cl1 c.f F })) := by
        show _ = _
        rw [← HR.out, HC.out, if_neg hlt]
      go_region
      go_upto_region 8 with fail
      generalize (w2.setCell ⟨q, 24, none⟩ (.int .i64 ((k : Int) + 1))).drew = w3 at *
      clear d24 d4 f24 hq2 HC hlt hltb
      have HKI := hideM (ikind_any (some ⟨q, 5, none⟩) 19 (cl19 (cl1 c.f F)) w3 HM3.out.row19 (by rw [cl19_len]; decide))
      rw [cl19_len] at HKI
      have hq3 := HM3.out.lt
      go_wp2_with fail
      refine Calls.mono HKI.out ?_
      rintro e w4 ⟨rfl, hb4⟩
      have hM4 := HM3.out.below hb4
      have hT4 := HT3.out.trans (Trod.below hq3 hb4)
      have HM4 := hideM hM4
      have HT4 := hideM hT4
      have HCO := hideM (icodes_any (some ⟨q, 5, none⟩) 19 (cl19 (cl1 c.f F)) w4 hM4.row19 (by rw [cl19_len]; decide))
      rw [cl19_len] at HCO
      have hq4 := hM4.lt
      clear hM4 hT4 HKI hb4 HM3 HT3
      by_cases hk1 : hk (cl19 (cl1 c.f F)) = 1
      · rw [hk1]
        have HX : Hid (r = .inl { c with st := 4, i := c.i + 3, f := cl1 c.f F, tb := cl19 (cl1 c.f F) }) := by
          show _ = _
          rw [HY.out, if_pos hk1]
        clear HY hk1
        generalize cl19 (cl1 c.f F) = ls at *
        go_wp2_with fail
        refine Calls.mono HCO.out ?_
        rintro e w5 ⟨⟨bo, bc, rfl, hRH⟩, hb5⟩
        have HNT := hideM (newTab_of ls bo bc w5 hRH.reads)
        have hM5 := HM4.out.below hb5
        have HM5 := hideM hM5
        have HT5 := hideM (HT4.out.trans (Trod.below hq4 hb5))
        have hq5 := hM5.lt
        clear hM5 HCO hRH hb5 HM4 HT4
        go_wp2_with fail
        refine Calls.mono HNT.out ?_
        rintro e w6 ⟨t, S, m, L, rfl, ht, hTab, hb6⟩
        have hM6 := HM5.out.below hb6
        obtain ⟨old, c25⟩ := hM6.c25
        have f25 := hM6.free 25
        have hp5 := HM5.out.rd.lt
        have HM7 := hideM (hM6.tabled (by show 1 ≤ c.st; rw [HS.out]; decide) (by show c.st ≤ 3; rw [HS.out]; decide) hTab (by omega) (by omega))
        have HT7 := hideM ((HT5.out.trans (Trod.below hq5 hb6)).trans (Trod.set 25 (.pointer (some ⟨t, 0, none⟩)) (by decide)))
        have hq6 := hM6.lt
        clear hM6 hTab hb6 HNT HM5 HT5
        go_wp2_with fail
        exact bodyPost_ret (v := .tuple #[.func (Fn.func 94) #[.pointer (some ⟨q, 0, none⟩)] #[], .nilIface]) (by simp [results, Tryz.results88, go_sem]) rfl (by rw [HX.out]; exact LPost.ok rfl HM7.out HT7.out)
      · have HX : Hid (r = .inr (3, { c with i := c.i + 3, f := cl1 c.f F })) := by
          show _ = _
          rw [HY.out, if_neg hk1]
        clear HY HCO
        generalize hk (cl19 (cl1 c.f F)) = h at *
        have hhb : (h == 1) = false := by simp [hk1]
        have hhn : (h != 1) = true := by simp [hk1]
        go_wp2_with fail
        exact bodyPost_ret (v := .tuple #[.nilFunc, flt 3]) (by simp [results, Tryz.results88, go_sem, flt]) rfl (by rw [HX.out]; exact LPost.no HM4.out HT4.out)
  · have HN := hideM (number_no q p hB zs c.i 3 w hM.c0 hM.rd hzl (by decide) hn)
    have HX : Hid (r = .inr (2, c)) := by
      show _ = _
      rw [← HR.out, codeLenS, if_neg hn]
    clear hM hn
    unfold flt at HN
    go_enter Tryz.func88, Tryz.ntmps88
    go_wp2_with fail
    refine Calls.mono HN.out ?_
    rintro e w1 ⟨rfl, hb⟩
    have HM2 := hideM (HM.out.below hb)
    have HT2 := hideM (Trod.below (p := p) hqw hb)
    clear hb HN HM
    go_wp2_with fail
    exact bodyPost_ret (v := .tuple #[.nilFunc, flt 2]) (by simp [results, Tryz.results88, go_sem, flt]) rfl (by rw [HX.out]; exact LPost.no HM2.out HT2.out)
end Go.Proofs.YtboniidgoepdcaaGreatDoor
namespace Go.Proofs.YtboniidgoepdcaaGreatDoor
open Go.RowKit
attribute [local go_sem ↓] Go.wp_at_zero Go.wp_at_succ
set_option linter.unusedVariables false

set_option maxRecDepth 100000 in
set_option maxHeartbeats 1600000 in
theorem both_any (q g n cap l : Nat) (w : World) (h26 : w.cell? ⟨q, 26, none⟩ = some (.slice (some ⟨g, 0, none⟩) n cap)) (h2 : w.cell? ⟨q, 2, none⟩ = some (.int .i64 (l : Int))) (hl : l < n) (hn : n ≤ cap) (hb : n ≤ 1000) :
    Calls Tryz.prog 50 #[.pointer (some ⟨q, 0, none⟩)] w fun e w' => e = .returned (.tuple #[.slice (some ⟨g, 0, none⟩) l cap, .slice (some ⟨g, l, none⟩) (n - l) (cap - l)]) ∧ Below w.heap.size w w' := by
  have hqw : q < w.heap.size := World.block_lt_of_cell? w _ h26
  have h1 : ((l : Int) ≤ (n : Int)) := by omega
  have h3 : ((l : Int) ≤ (cap : Int)) := by omega
  have h4 : ¬ cap = l := by omega
  have h5 : ¬ l = cap := by omega
  have h6 : l ≤ cap := by omega
  have h7 : l ≤ n := by omega
  go_enter Tryz.func50, Tryz.ntmps50
  go_upto_region 1 with fail
  go_region
  go_wp2_with fail
  exact bodyPost_ret (v := .tuple #[.slice (some ⟨g, 0, none⟩) l cap, .slice (some ⟨g, l, none⟩) (n - l) (cap - l)]) (by simp [results, Tryz.results50, go_sem]) rfl ⟨rfl, (Below.refl _ _).drew⟩
/-- What checkLens asks of both lists. -/
abbrev chk (ls ds : List Int) : Prop := ls.getD 256 0 ≠ 0 ∧ (hk ls = 1 ∨ hk ls = 4) ∧ (hk ds = 1 ∨ hk ds = 4 ∨ hk ds = 5)
theorem Row64.takeN {w : World} {g : Nat} {zs : List Int} (h : Row64 w (some ⟨g, 0, none⟩) zs) (l : Nat) : Row64 w (some ⟨g, 0, none⟩) (zs.take l) := by
  intro i hi
  rw [List.length_take] at hi
  obtain ⟨b, off, e, hc⟩ := h i (by omega)
  refine ⟨b, off, e, ?_⟩
  rw [hc, List.getD_eq_getElem?_getD, List.getD_eq_getElem?_getD, List.getElem?_take_of_lt (by omega)]
theorem Row64.dropN {w : World} {g : Nat} {zs : List Int} (h : Row64 w (some ⟨g, 0, none⟩) zs) (l : Nat) : Row64 w (some ⟨g, l, none⟩) (zs.drop l) := by
  intro i hi
  rw [List.length_drop] at hi
  obtain ⟨b, off, e, hc⟩ := h (l + i) (by omega)
  cases e
  refine ⟨g, l, rfl, ?_⟩
  rw [show l + i = 0 + (l + i) from by omega, hc, List.getD_eq_getElem?_getD, List.getD_eq_getElem?_getD, List.getElem?_drop]
set_option maxRecDepth 100000 in
set_option maxHeartbeats 1600000 in
theorem checkLens_any (q g cap l : Nat) (zs : List Int) (w : World) (h26 : w.cell? ⟨q, 26, none⟩ = some (.slice (some ⟨g, 0, none⟩) zs.length cap)) (h2 : w.cell? ⟨q, 2, none⟩ = some (.int .i64 (l : Int))) (hl : l < zs.length) (hn : zs.length ≤ cap) (hb : zs.length ≤ 1000) (hrow : Row64 w (some ⟨g, 0, none⟩) zs) (h257 : 257 ≤ l) :
    Calls Tryz.prog 99 #[.pointer (some ⟨q, 0, none⟩)] w fun e w' => ((chk (zs.take l) (zs.drop l) → e = .returned .nilIface) ∧ (¬ chk (zs.take l) (zs.drop l) → e = .returned (flt 3))) ∧ Below w.heap.size w w' := by
  have HBO := hideM (both_any q g zs.length cap l w h26 h2 hl hn hb)
  have hqw : q < w.heap.size := World.block_lt_of_cell? w _ h26
  obtain ⟨x, hx⟩ : ∃ x, (zs.take l).getD 256 0 = x := ⟨_, rfl⟩
  obtain ⟨bb, of, eb, hcx⟩ := hrow.takeN l 256 (by rw [List.length_take]; omega)
  cases eb
  rw [hx, show 0 + 256 = 256 from rfl] at hcx
  have hgw : g < w.heap.size := World.block_lt_of_cell? w _ hcx
  have hl1 : (zs.take l).length = l := by rw [List.length_take]; omega
  have hl2 : (zs.drop l).length = zs.length - l := List.length_drop
  have HK1 := hideM (fun (W : World) (hb : Below w.heap.size w W) => ikind_any (some ⟨g, 0, none⟩) cap (zs.take l) W ((hrow.below hb).takeN l) (by omega))
  have HK2 := hideM (fun (W : World) (hb : Below w.heap.size w W) => ikind_any (some ⟨g, l, none⟩) (cap - l) (zs.drop l) W ((hrow.below hb).dropN l) (by omega))
  rw [hl1] at HK1
  rw [hl2] at HK2
  have HCH : Hid (chk (zs.take l) (zs.drop l) ↔ x ≠ 0 ∧ (hk (zs.take l) = 1 ∨ hk (zs.take l) = 4) ∧ (hk (zs.drop l) = 1 ∨ hk (zs.drop l) = 4 ∨ hk (zs.drop l) = 5)) := by
    show _ ↔ _
    unfold chk
    rw [hx]
  generalize chk (zs.take l) (zs.drop l) = C at *
  generalize hk (zs.take l) = a at *
  generalize hk (zs.drop l) = b at *
  generalize zs.length = n at *
  clear hx hl1 hl2 hrow
  have hl256 : (256 : Int) < (l : Int) := by omega
  go_enter Tryz.func99, Tryz.ntmps99
  go_wp2_with fail
  refine Calls.mono HBO.out ?_
  rintro e w1 ⟨rfl, hb1⟩
  have hcx1 := (hb1.cell (p := ⟨g, 256, none⟩) hgw).trans hcx
  have hs1 := hb1.size
  have HB1 := hideM hb1
  have HKA := hideM (HK1.out w1 hb1)
  clear hb1 HBO HK1 hcx h26 h2
  by_cases hx0 : x = 0
  · have hxb : (x == 0) = true := by simp [hx0]
    have HP : Hid (¬ C) := fun h => (HCH.out.1 h).1 hx0
    clear hx0
    go_wp2_with fail
    exact bodyPost_ret (v := flt 3) (by simp [results, Tryz.results99, go_sem, flt]) rfl ⟨⟨(fun h => absurd h HP.out), (fun _ => rfl)⟩, HB1.out⟩
  · have hxb : (x == 0) = false := by simp [hx0]
    have HX0 := hideM hx0
    clear hx0
    go_upto_region 4 with fail
    go_wp2_with fail
    refine Calls.mono HKA.out ?_
    rintro e w2 ⟨rfl, hb2⟩
    have hB2 := HB1.out.trans (hb2.mono hs1)
    have HB2 := hideM hB2
    have hs2 := hB2.size
    have HKB := hideM (HK2.out w2 hB2)
    clear hb2 hB2 HKA HK2 HB1 hcx1
    by_cases ha : a = 1 ∨ a = 4
    · have HA := hideM ha
      rcases ha with rfl | rfl
      · go_upto_region 7 with fail
        go_wp2_with fail
        refine Calls.mono HKB.out ?_
        rintro e w3 ⟨rfl, hb3⟩
        have HB3 := hideM (HB2.out.trans (hb3.mono hs2))
        clear hb3 HKB HB2
        by_cases hbb : b = 1 ∨ b = 4 ∨ b = 5
        · have HP : Hid C := HCH.out.2 ⟨HX0.out, HA.out, hbb⟩
          clear HCH HA
          rcases hbb with rfl | rfl | rfl
          · go_wp2_with fail
            exact bodyPost_ret (v := .nilIface) (by simp [results, Tryz.results99, go_sem]) rfl ⟨⟨(fun _ => rfl), (fun h => absurd HP.out h)⟩, HB3.out⟩
          · go_wp2_with fail
            exact bodyPost_ret (v := .nilIface) (by simp [results, Tryz.results99, go_sem]) rfl ⟨⟨(fun _ => rfl), (fun h => absurd HP.out h)⟩, HB3.out⟩
          · go_wp2_with fail
            exact bodyPost_ret (v := .nilIface) (by simp [results, Tryz.results99, go_sem]) rfl ⟨⟨(fun _ => rfl), (fun h => absurd HP.out h)⟩, HB3.out⟩
        · have HP : Hid (¬ C) := fun h => hbb (HCH.out.1 h).2.2
          have b1 : (b != 1) = true := by simp; omega
          have b2 : (b != 4) = true := by simp; omega
          have b3 : (b == 1) = false := by simp; omega
          have b4 : (b == 4) = false := by simp; omega
          have b5 : (b != 5) = true := by simp; omega
          have b6 : (b == 5) = false := by simp; omega
          clear hbb
          go_wp2_with fail
          exact bodyPost_ret (v := flt 3) (by simp [results, Tryz.results99, go_sem, flt]) rfl ⟨⟨(fun h => absurd h HP.out), (fun _ => rfl)⟩, HB3.out⟩
      · go_upto_region 7 with fail
        go_wp2_with fail
        refine Calls.mono HKB.out ?_
        rintro e w3 ⟨rfl, hb3⟩
        have HB3 := hideM (HB2.out.trans (hb3.mono hs2))
        clear hb3 HKB HB2
        by_cases hbb : b = 1 ∨ b = 4 ∨ b = 5
        · have HP : Hid C := HCH.out.2 ⟨HX0.out, HA.out, hbb⟩
          clear HCH HA
          rcases hbb with rfl | rfl | rfl
          · go_wp2_with fail
            exact bodyPost_ret (v := .nilIface) (by simp [results, Tryz.results99, go_sem]) rfl ⟨⟨(fun _ => rfl), (fun h => absurd HP.out h)⟩, HB3.out⟩
          · go_wp2_with fail
            exact bodyPost_ret (v := .nilIface) (by simp [results, Tryz.results99, go_sem]) rfl ⟨⟨(fun _ => rfl), (fun h => absurd HP.out h)⟩, HB3.out⟩
          · go_wp2_with fail
            exact bodyPost_ret (v := .nilIface) (by simp [results, Tryz.results99, go_sem]) rfl ⟨⟨(fun _ => rfl), (fun h => absurd HP.out h)⟩, HB3.out⟩
        · have HP : Hid (¬ C) := fun h => hbb (HCH.out.1 h).2.2
          have b1 : (b != 1) = true := by simp; omega
          have b2 : (b != 4) = true := by simp; omega
          have b3 : (b == 1) = false := by simp; omega
          have b4 : (b == 4) = false := by simp; omega
          have b5 : (b != 5) = true := by simp; omega
          have b6 : (b == 5) = false := by simp; omega
          clear hbb
          go_wp2_with fail
          exact bodyPost_ret (v := flt 3) (by simp [results, Tryz.results99, go_sem, flt]) rfl ⟨⟨(fun h => absurd h HP.out), (fun _ => rfl)⟩, HB3.out⟩
    · have HP : Hid (¬ C) := fun h => ha (HCH.out.1 h).2.1
      have a1 : (a != 1) = true := by simp; omega
      have a2 : (a != 4) = true := by simp; omega
      have a3 : (a == 1) = false := by simp; omega
      have a4 : (a == 4) = false := by simp; omega
      clear ha
      go_wp2_with fail
      exact bodyPost_ret (v := flt 3) (by simp [results, Tryz.results99, go_sem, flt]) rfl ⟨⟨(fun h => absurd h HP.out), (fun _ => rfl)⟩, HB2.out⟩
end Go.Proofs.YtboniidgoepdcaaGreatDoor
