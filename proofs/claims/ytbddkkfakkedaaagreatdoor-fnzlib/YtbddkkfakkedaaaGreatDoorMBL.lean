import Derived.Deep.RegionHeld3
import Derived.Test.YtbddkkfakkedaaaGreatDoorMBK
namespace Go.Proofs.YtbddkkfakkedaaaGreatDoor
open Go.RowKit
variable {KH : Nat → Option Obj}
attribute [local go_sem ↓] Go.wp_at_zero Go.wp_at_succ
set_option linter.unusedVariables false

theorem rd_align (p hB : Nat) (zs : List Int) (i : Nat) (w : World) (h : Rd w p hB zs i) (hzl : zs.length ≤ 65536) :
    Calls Tryz.prog 88 #[.agg #[.pointer (some ⟨p, 0, none⟩)]] w fun e w' => e = .returned (.tuple #[]) ∧ Rd w' p hB zs ((i + 7) / 8 * 8) ∧ w.grownBy w' (some p) := by
  obtain ⟨hl, hne, ao, cap, hs, hr, hc, hb⟩ := h
  refine Calls.mono (align_any p ao (zs.drop (i / 8)).length cap ((i % 8 : Nat) : Int) (i : Int) w hs (Rd.vld hl hzl)) ?_
  rintro e w' ⟨rfl, hs', hg⟩
  refine ⟨rfl, ?_, hg⟩
  obtain ⟨n, hn⟩ : ∃ n, (8 - i % 8) % 8 = n := ⟨_, rfl⟩
  have e1 : (i + 7) / 8 * 8 = i + n := by omega
  have e2 : ((((i % 8 : Nat) : Int) + (n : Int)) / 8).toNat = cutA ((i % 8 : Nat) : Int) := by
    unfold cutA
    by_cases h0 : ((i % 8 : Nat) : Int) = 0
    · rw [if_pos h0]; omega
    · rw [if_neg h0]; omega
  have e3 : (((i % 8 : Nat) : Int) + (n : Int)) % 8 = 0 := by omega
  have e4 : (i : Int) + (n : Int) = (i : Int) + restA ((i % 8 : Nat) : Int) := by unfold restA; omega
  rw [e1]
  refine Rd.moved (by omega) ?_ hr hc hne hb hg
  rw [e2, e3, e4]
  exact hs'
/-- storedHead. -/
def storedHeadS (zs : List Int) (c : IC) : IC ⊕ (Int × IC) :=
  if c.lc.i + 32 ≤ 8 * zs.length then
    if field (bnum zs) c.lc.i 32 / 65536 + field (bnum zs) c.lc.i 32 % 65536 = 65535 then .inl { c with st := 10, stored := field (bnum zs) c.lc.i 32 % 65536, lc := { c.lc with i := c.lc.i + 32 } }
    else .inr (3, { c with stored := field (bnum zs) c.lc.i 32 % 65536, lc := { c.lc with i := c.lc.i + 32 } })
  else .inr (2, c)
set_option maxRecDepth 100000 in
set_option maxHeartbeats 3200000 in
theorem storedHead_any (q p hB g s B : Nat) (zs : List Int) (aft : Value) (c : IC) (w : World) (hM : IMem KH q p hB g s B zs aft w c) (hs : c.st = 9) (hz : Octets zs) (hzl : zs.length ≤ 65536) :
    Calls Tryz.prog 124 #[.pointer (some ⟨q, 0, none⟩)] w fun e w' => IPost KH q p hB g s B zs aft (storedHeadS zs c) e w w' := by
  have hqw := hM.lt
  have HM := hideM hM
  unfold storedHeadS
  by_cases hn : c.lc.i + 32 ≤ 8 * zs.length
  · rw [if_pos hn]
    have HN := hideM (number_yes q p hB zs c.lc.i 32 w hM.lm.c0 hM.lm.rd hz hzl (by decide) hn)
    have hF : field (bnum zs) c.lc.i 32 < 4294967296 := field_lt _ _ _
    generalize field (bnum zs) c.lc.i 32 = F at *
    clear hM hn
    have hM2 : ∀ w1, Rd w1 p hB zs (c.lc.i + 32) → w.grownBy w1 (some p) → IMem KH q p hB g s B zs aft (w1.setCell ⟨q, 32, none⟩ (.int .i64 ((F : Int) % 65536))) { c with stored := F % 65536, lc := { c.lc with i := c.lc.i + 32 } } ∧ Below B w (w1.setCell ⟨q, 32, none⟩ (.int .i64 ((F : Int) % 65536))) := by
      intro w1 hR hg
      have h1 := HM.out.went hR hg
      exact ⟨h1.setq 32 (by omega) _ c.last (F % 65536) c.base c.extra c.len (by simp) (by simp) (by simp) (by simp) (by simp), (HM.out.bel hg).trans (h1.belq 32 _)⟩
    have HM2 := hideM hM2
    clear hM2
    by_cases hx : F / 65536 + F % 65536 = 65535
    · rw [if_pos hx]
      have hxb : ((F : Int) / 65536 != 65535 - (F : Int) % 65536) = false := by simp; omega
      go_enter Tryz.func124, Tryz.ntmps124
      go_wp2_with fail
      refine Calls.mono HN.out ?_
      rintro e w1 ⟨rfl, hR, hg⟩
      have HX := hideM (HM2.out w1 hR hg)
      have h1 := HM.out.went hR hg
      obtain ⟨T, hRr, _⟩ := h1.ex
      have q32 := hRr.c32
      have f32 := h1.lm.free 32
      have hq1 := h1.lt
      clear h1 hRr hR hg HN HM
      go_wp2_with fail
      exact bodyPost_ret (v := .tuple #[.func (Fn.func 152) #[.pointer (some ⟨q, 0, none⟩)] #[], .nilIface]) (by simp [results, Tryz.results124, go_sem]) rfl (IPost.ok rfl (HX.out.1.at (by show 7 ≤ c.st; omega) 10 (by omega) (fun h _ => by omega)) HX.out.2)
    · rw [if_neg hx]
      have hxb : ((F : Int) / 65536 != 65535 - (F : Int) % 65536) = true := by simp; omega
      go_enter Tryz.func124, Tryz.ntmps124
      go_wp2_with fail
      refine Calls.mono HN.out ?_
      rintro e w1 ⟨rfl, hR, hg⟩
      have HX := hideM (HM2.out w1 hR hg)
      have h1 := HM.out.went hR hg
      obtain ⟨T, hRr, _⟩ := h1.ex
      have q32 := hRr.c32
      have f32 := h1.lm.free 32
      have hq1 := h1.lt
      clear h1 hRr hR hg HN HM
      go_wp2_with fail
      exact bodyPost_ret (v := .tuple #[.nilFunc, flt 3]) (by simp [results, Tryz.results124, go_sem, flt]) rfl (IPost.no HX.out.1 HX.out.2)
  · rw [if_neg hn]
    have HN := hideM (number_no q p hB zs c.lc.i 32 w hM.lm.c0 hM.lm.rd hzl (by decide) hn)
    have HB1 := hideM (show 3 ≤ B ∧ B ≤ q ∧ B ≤ p ∧ B ≤ g from hM.bs)
    clear hM hn
    unfold flt at HN
    go_enter Tryz.func124, Tryz.ntmps124
    go_wp2_with fail
    refine Calls.mono HN.out ?_
    rintro e w1 ⟨rfl, hb⟩
    have HM2 := hideM (HM.out.below hb)
    have HT2 := hideM (hb.mono (show B ≤ w.heap.size from by have := HB1.out; omega))
    clear hb HN HM
    go_wp2_with fail
    exact bodyPost_ret (v := .tuple #[.nilFunc, flt 2]) (by simp [results, Tryz.results124, go_sem, flt]) rfl (IPost.no HM2.out HT2.out)
/-- copyLength. -/
def copyLengthS (zs : List Int) (c : IC) : IC ⊕ (Int × IC) :=
  if c.lc.i + c.extra ≤ 8 * zs.length then .inl { c with st := 14, len := c.base + field (bnum zs) c.lc.i c.extra, lc := { c.lc with i := c.lc.i + c.extra } }
  else .inr (2, c)
set_option maxRecDepth 100000 in
set_option maxHeartbeats 3200000 in
theorem copyLength_any (q p hB g s B : Nat) (zs : List Int) (aft : Value) (c : IC) (w : World) (hM : IMem KH q p hB g s B zs aft w c) (hs : c.st = 13) (hex : c.extra ≤ 5) (hba : c.base ≤ 300) (hz : Octets zs) (hzl : zs.length ≤ 65536) :
    Calls Tryz.prog 160 #[.pointer (some ⟨q, 0, none⟩)] w fun e w' => IPost KH q p hB g s B zs aft (copyLengthS zs c) e w w' := by
  have hqw := hM.lt
  have HM := hideM hM
  obtain ⟨T, hRr, _⟩ := hM.ex
  have q36 := hRr.c36
  unfold copyLengthS
  have hd : Below w.heap.size w w.drew := (Below.refl _ _).drew
  have hMd := hM.below hd
  have HMd := hideM hMd
  have HBd := hideM ((hd.mono (show B ≤ w.heap.size from by have := hM.bs; omega)))
  by_cases hn : c.lc.i + c.extra ≤ 8 * zs.length
  · rw [if_pos hn]
    have HN := hideM (number_yes q p hB zs c.lc.i c.extra w.drew hMd.lm.c0 hMd.lm.rd hz hzl (by omega) hn)
    have hF : field (bnum zs) c.lc.i c.extra < 128 := field_small _ _ _ (by omega)
    generalize field (bnum zs) c.lc.i c.extra = F at *
    clear hM hn hRr hMd
    go_enter Tryz.func160, Tryz.ntmps160
    go_upto_region 1 with fail
    go_region_held3 (fun w' => w'.cell? ⟨q, 36, none⟩ = some (.int .i64 (c.extra : Nat)))
      (first | (with_reducible assumption) | (go_keep; done))
      ((go_at_call 85; refine Calls.mono HN.out ?_; rintro e w1 ⟨rfl, hR, hg⟩; have k36 := hg.cell (show w.drew.cell? ⟨q, 36, none⟩ = some (.int .i64 (c.extra : Nat)) from q36) (by have := HM.out.lm.ne; simpa using this)))
    have h1 := HMd.out.went hR hg
    have HX := hideM (h1.setq 37 (by omega) (.int .i64 ((c.base : Int) + (F : Int))) c.last c.stored c.base c.extra (c.base + F) (by simp) (by simp) (by simp) (by simp) (by simp))
    have HT := hideM ((HBd.out.trans (HMd.out.bel hg)).trans (h1.belq 37 (.int .i64 ((c.base : Int) + (F : Int)))))
    obtain ⟨T, hRr, _⟩ := h1.ex
    have q35 := hRr.c35
    have q37 := hRr.c37
    have f37 := h1.lm.free 37
    have hq1 := h1.lt
    clear h1 hRr hR hg HN HM q36 k36 hd HMd HBd
    dsimp only at q35 q37
    go_wp2_with fail
    exact bodyPost_ret (v := .tuple #[.func (Fn.func 171) #[.pointer (some ⟨q, 0, none⟩)] #[], .nilIface]) (by simp [results, Tryz.results160, go_sem]) rfl (IPost.ok rfl (HX.out.at (by show 7 ≤ c.st; omega) 14 (by omega) (fun _ _ => ⟨by show 12 ≤ c.st; omega, by show c.st ≤ 15; omega⟩)) HT.out)
  · rw [if_neg hn]
    have HN := hideM (number_no q p hB zs c.lc.i c.extra w.drew hMd.lm.c0 hMd.lm.rd hzl (by omega) hn)
    have HB1 := hideM (show 3 ≤ B ∧ B ≤ q ∧ B ≤ p ∧ B ≤ g from hM.bs)
    clear hM hn hRr hMd
    unfold flt at HN
    go_enter Tryz.func160, Tryz.ntmps160
    go_upto_region 1 with fail
    go_region_held3 (fun w' => w'.cell? ⟨q, 36, none⟩ = some (.int .i64 (c.extra : Nat)))
      (first | (with_reducible assumption) | (go_keep; done))
      ((go_at_call 85; refine Calls.mono HN.out ?_; rintro e w1 ⟨rfl, hb⟩; have k36 := (hb.cell (p := ⟨q, 36, none⟩) hqw).trans (show w.drew.cell? ⟨q, 36, none⟩ = some (.int .i64 (c.extra : Nat)) from q36)))
    have HM2 := hideM (HMd.out.below hb)
    have HT2 := hideM (HBd.out.trans (hb.mono (show B ≤ w.drew.heap.size from by have := HB1.out; show B ≤ w.heap.size; omega)))
    clear hb HN HM q36 k36 hd HMd HBd
    go_wp2_with fail
    exact bodyPost_ret (v := .tuple #[.nilFunc, flt 2]) (by simp [results, Tryz.results160, go_sem, flt]) rfl (IPost.no HM2.out HT2.out)
/-- blockHead. -/
def blockHeadS (zs : List Int) (c : IC) : IC ⊕ (Int × IC) :=
  if c.lc.i + 3 ≤ 8 * zs.length then
    if field (bnum zs) c.lc.i 3 / 2 = 0 then .inl { c with st := 9, last := decide (field (bnum zs) c.lc.i 3 % 2 = 1), lc := { c.lc with i := (c.lc.i + 3 + 7) / 8 * 8 } }
    else if field (bnum zs) c.lc.i 3 / 2 = 1 then .inl { c with st := 11, last := decide (field (bnum zs) c.lc.i 3 % 2 = 1), lc := { c.lc with i := c.lc.i + 3 } }
    else if field (bnum zs) c.lc.i 3 / 2 = 2 then .inl { c with st := 0, last := decide (field (bnum zs) c.lc.i 3 % 2 = 1), lc := { c.lc with i := c.lc.i + 3 } }
    else .inr (3, { c with last := decide (field (bnum zs) c.lc.i 3 % 2 = 1), lc := { c.lc with i := c.lc.i + 3 } })
  else .inr (2, c)
set_option maxRecDepth 100000 in
set_option maxHeartbeats 3200000 in
theorem blockHead_any (q p hB g s B : Nat) (zs : List Int) (aft : Value) (c : IC) (w : World) (hM : IMem KH q p hB g s B zs aft w c) (hs : c.st = 7) (hz : Octets zs) (hzl : zs.length ≤ 65536) :
    Calls Tryz.prog 83 #[.pointer (some ⟨q, 0, none⟩)] w fun e w' => IPost KH q p hB g s B zs aft (blockHeadS zs c) e w w' := by
  have hqw := hM.lt
  have HM := hideM hM
  unfold blockHeadS
  by_cases hn : c.lc.i + 3 ≤ 8 * zs.length
  · rw [if_pos hn]
    have HN := hideM (number_yes q p hB zs c.lc.i 3 w hM.lm.c0 hM.lm.rd hz hzl (by decide) hn)
    have hF : field (bnum zs) c.lc.i 3 < 8 := field_lt _ _ _
    generalize field (bnum zs) c.lc.i 3 = F at *
    obtain ⟨la, hla⟩ : ∃ la, decide (F % 2 = 1) = la := ⟨_, rfl⟩
    have hlb : ((F : Int) % 2 == 1) = la := by
      rw [← hla]
      by_cases h1 : F % 2 = 1
      · rw [decide_eq_true h1]; simp; omega
      · rw [decide_eq_false h1]; simp; omega
    rw [hla]
    clear hla
    have HX0 : Hid (∀ w1, Rd w1 p hB zs (c.lc.i + 3) → w.grownBy w1 (some p) → IMem KH q p hB g s B zs aft (w1.setCell ⟨q, 31, none⟩ (.bool la)) { c with last := la, lc := { c.lc with i := c.lc.i + 3 } } ∧ Below B w (w1.setCell ⟨q, 31, none⟩ (.bool la))) := by
      intro w1 hR hg
      have h1 := HM.out.went hR hg
      exact ⟨h1.setq 31 (by omega) _ la c.stored c.base c.extra c.len (by simp) (by simp) (by simp) (by simp) (by simp), (HM.out.bel hg).trans (h1.belq 31 _)⟩
    clear hM hn
    by_cases h0 : F / 2 = 0
    · rw [if_pos h0]
      have h0b : ((F : Int) / 2 == 0) = true := by simp; omega
      go_enter Tryz.func83, Tryz.ntmps83
      go_wp2_with fail
      refine Calls.mono HN.out ?_
      rintro e w1 ⟨rfl, hR, hg⟩
      have HX := hideM (HX0.out w1 hR hg)
      have h1 := HM.out.went hR hg
      obtain ⟨T, hRr, _⟩ := h1.ex
      have q31 := hRr.c31
      have f31 := h1.lm.free 31
      have hq1 := h1.lt
      have q0 := HX.out.1.lm.c0
      have AL := hideM (rd_align p hB zs (c.lc.i + 3) _ HX.out.1.lm.rd hzl)
      have hq2 := HX.out.1.lt
      clear h1 hRr hR hg HN HM HX0
      go_upto_region 7 with fail
      generalize w1.setCell ⟨q, 31, none⟩ (.bool la) = w2 at *
      clear q31 f31 hq1
      go_wp2_with fail
      refine Calls.mono AL.out ?_
      rintro e w3 ⟨rfl, hR3, hg3⟩
      have HX3 := hideM (HX.out.1.went hR3 hg3)
      have HT3 := hideM (HX.out.2.trans (HX.out.1.bel hg3))
      clear hR3 hg3 AL HX q0 hq2
      go_wp2_with fail
      exact bodyPost_ret (v := .tuple #[.func (Fn.func 124) #[.pointer (some ⟨q, 0, none⟩)] #[], .nilIface]) (by simp [results, Tryz.results83, go_sem]) rfl (IPost.ok rfl (HX3.out.at (by show 7 ≤ c.st; omega) 9 (by omega) (fun h _ => by omega)) HT3.out)
    · rw [if_neg h0]
      have h0b : ((F : Int) / 2 == 0) = false := by simp; omega
      by_cases h1 : F / 2 = 1
      · rw [if_pos h1]
        have h1b : ((F : Int) / 2 == 1) = true := by simp; omega
        go_enter Tryz.func83, Tryz.ntmps83
        go_wp2_with fail
        refine Calls.mono HN.out ?_
        rintro e w1 ⟨rfl, hR, hg⟩
        have HX := hideM (HX0.out w1 hR hg)
        have h1 := HM.out.went hR hg
        obtain ⟨T, hRr, _⟩ := h1.ex
        have q31 := hRr.c31
        have f31 := h1.lm.free 31
        have hq1 := h1.lt
        clear h1 hRr hR hg HN HM HX0
        go_wp2_with fail
        exact bodyPost_ret (v := .tuple #[.func (Fn.func 125) #[.pointer (some ⟨q, 0, none⟩)] #[], .nilIface]) (by simp [results, Tryz.results83, go_sem]) rfl (IPost.ok rfl (HX.out.1.at (by show 7 ≤ c.st; omega) 11 (by omega) (fun h _ => by omega)) HX.out.2)
      · rw [if_neg h1]
        have h1b : ((F : Int) / 2 == 1) = false := by simp; omega
        by_cases h2 : F / 2 = 2
        · rw [if_pos h2]
          have h2b : ((F : Int) / 2 == 2) = true := by simp; omega
          go_enter Tryz.func83, Tryz.ntmps83
          go_wp2_with fail
          refine Calls.mono HN.out ?_
          rintro e w1 ⟨rfl, hR, hg⟩
          have HX := hideM (HX0.out w1 hR hg)
          have h1 := HM.out.went hR hg
          obtain ⟨T, hRr, _⟩ := h1.ex
          have q31 := hRr.c31
          have f31 := h1.lm.free 31
          have hq1 := h1.lt
          clear h1 hRr hR hg HN HM HX0
          go_wp2_with fail
          exact bodyPost_ret (v := .tuple #[.func (Fn.func 126) #[.pointer (some ⟨q, 0, none⟩)] #[], .nilIface]) (by simp [results, Tryz.results83, go_sem]) rfl (IPost.ok rfl (HX.out.1.at0 (by show 7 ≤ c.st; omega)) HX.out.2)
        · rw [if_neg h2]
          have h2b : ((F : Int) / 2 == 2) = false := by simp; omega
          go_enter Tryz.func83, Tryz.ntmps83
          go_wp2_with fail
          refine Calls.mono HN.out ?_
          rintro e w1 ⟨rfl, hR, hg⟩
          have HX := hideM (HX0.out w1 hR hg)
          have h1 := HM.out.went hR hg
          obtain ⟨T, hRr, _⟩ := h1.ex
          have q31 := hRr.c31
          have f31 := h1.lm.free 31
          have hq1 := h1.lt
          clear h1 hRr hR hg HN HM HX0
          go_wp2_with fail
          exact bodyPost_ret (v := .tuple #[.nilFunc, flt 3]) (by simp [results, Tryz.results83, go_sem, flt]) rfl (IPost.no HX.out.1 HX.out.2)
  · rw [if_neg hn]
    have HN := hideM (number_no q p hB zs c.lc.i 3 w hM.lm.c0 hM.lm.rd hzl (by decide) hn)
    have HB1 := hideM (show 3 ≤ B ∧ B ≤ q ∧ B ≤ p ∧ B ≤ g from hM.bs)
    clear hM hn
    unfold flt at HN
    go_enter Tryz.func83, Tryz.ntmps83
    go_wp2_with fail
    refine Calls.mono HN.out ?_
    rintro e w1 ⟨rfl, hb⟩
    have HM2 := hideM (HM.out.below hb)
    have HT2 := hideM (hb.mono (show B ≤ w.heap.size from by have := HB1.out; omega))
    clear hb HN HM
    go_wp2_with fail
    exact bodyPost_ret (v := .tuple #[.nilFunc, flt 2]) (by simp [results, Tryz.results83, go_sem, flt]) rfl (IPost.no HM2.out HT2.out)
end Go.Proofs.YtbddkkfakkedaaaGreatDoor
