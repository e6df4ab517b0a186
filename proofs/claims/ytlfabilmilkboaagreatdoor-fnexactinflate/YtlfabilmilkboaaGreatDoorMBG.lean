import Derived.Test.YtlfabilmilkboaaGreatDoorMBF
namespace Go.Proofs.YtlfabilmilkboaaGreatDoor
open Go.RowKit
attribute [local go_sem ↓] Go.wp_at_zero Go.wp_at_succ
set_option linter.unusedVariables false

set_option maxRecDepth 100000 in
theorem data_yes (q p hB : Nat) (zs : List Int) (i n : Nat) (w : World) (hm : w.cell? ⟨q, 0, none⟩ = some (.pointer (some ⟨p, 0, none⟩))) (h : Rd w p hB zs i) (h8 : i % 8 = 0) (hzl : zs.length ≤ 65536) (hn1 : 1 ≤ n) (hn : i + 8 * n ≤ 8 * zs.length) :
    Calls Tryz.prog 79 #[.pointer (some ⟨q, 0, none⟩), .int .i64 (n : Nat)] w fun e w' => ∃ bo bc, e = .returned (.tuple #[.slice bo n bc, .nilIface]) ∧ Mine w.heap.size w' bo bc ((zs.drop (i / 8)).take n) ∧ Rd w' p hB zs (i + 8 * n) ∧ w.grownBy w' (some p) := by
  have hqw := World.block_lt_of_cell? w _ hm
  have hv := Rd.vld h.le hzl
  obtain ⟨hl, hne, ao, cap, hs, hr, hc, hb⟩ := h
  rw [h8] at hs hv
  have hlen : (zs.drop (i / 8)).length = zs.length - i / 8 := List.length_drop
  have BY := hideM (bytes_yes p ao cap (zs.drop (i / 8)) (i : Int) n w hs hr (fun e => by obtain ⟨b, off, e2, _⟩ := hr 0 (by omega); rw [e] at e2; cases e2) hc hv (by omega) (decide_eq_true (by omega)))
  have HX : Hid (∀ w', Src w' p (.slice (cutAt ao cap n) ((zs.drop (i / 8)).length - n) (cap - n)) 0 ((i : Int) + 8 * (n : Int)) → w.grownBy w' (some p) → Rd w' p hB zs (i + 8 * n)) := by
    intro w' h1 h2
    refine Rd.moved (n := 8 * n) hn ?_ hr hc hne hb h2
    rw [h8, show ((((0 : Nat) : Int) + ((8 * n : Nat) : Int)) / 8).toNat = n from by omega, show (((0 : Nat) : Int) + ((8 * n : Nat) : Int)) % 8 = 0 from by omega, show (i : Int) + ((8 * n : Nat) : Int) = (i : Int) + 8 * (n : Int) from by omega]
    exact h1
  generalize (zs.drop (i / 8)).length = Z at *
  clear hs hr hc hv hb hne
  go_enter Tryz.func79, Tryz.ntmps79
  go_wp2_with fail
  refine Calls.mono BY.out ?_
  rintro e w1 ⟨bo, bc, rfl, h1, h2, h3⟩
  have H1 := hideM h1
  have H2 := hideM (HX.out w1 h2 h3)
  have H3 := hideM h3
  clear h1 h2 h3 BY HX
  go_wp2_with fail
  exact bodyPost_ret (v := .tuple #[.slice bo n bc, .nilIface]) (by simp [results, Tryz.results79, go_sem]) rfl ⟨bo, bc, rfl, H1.out, H2.out, H3.out⟩
set_option maxRecDepth 100000 in
theorem data_no (q p hB : Nat) (zs : List Int) (i n : Nat) (w : World) (hm : w.cell? ⟨q, 0, none⟩ = some (.pointer (some ⟨p, 0, none⟩))) (h : Rd w p hB zs i) (h8 : i % 8 = 0) (hzl : zs.length ≤ 65536) (hn : ¬ i + 8 * n ≤ 8 * zs.length) :
    Calls Tryz.prog 79 #[.pointer (some ⟨q, 0, none⟩), .int .i64 (n : Nat)] w fun e w' => e = .returned (.tuple #[.slice none 0 0, flt 2]) ∧ Below w.heap.size w w' := by
  have hqw := World.block_lt_of_cell? w _ hm
  have hv := Rd.vld h.le hzl
  obtain ⟨hl, hne, ao, cap, hs, hr, hc, hb⟩ := h
  rw [h8] at hs hv
  have hlen : (zs.drop (i / 8)).length = zs.length - i / 8 := List.length_drop
  have BY := hideM (bytes_no p ao (zs.drop (i / 8)).length cap 0 (i : Int) (n : Int) w hs hv (.inr (.inr (.inl ⟨rfl, by omega, by omega⟩))))
  clear hs hr hc hv hb hne
  go_enter Tryz.func79, Tryz.ntmps79
  go_wp2_with fail
  refine Calls.mono BY.out ?_
  rintro e w1 ⟨rfl, hb1⟩
  have H1 := hideM hb1
  clear hb1 BY
  go_wp2_with fail
  exact bodyPost_ret (v := .tuple #[.slice none 0 0, flt 2]) (by simp [results, Tryz.results79, go_sem, flt]) rfl ⟨rfl, H1.out⟩
/-- storedBytes. -/
def stN (zs : List Int) (c : IC) : Nat := max 1 (min (min c.stored (zs.length - c.lc.i / 8)) (100000 - c.out.length))
def storedBytesS (s : Nat) (zs : List Int) (c : IC) : IC ⊕ (Int × IC) :=
  if c.stored = 0 then .inl { c with st := 8 }
  else if c.lc.i + 8 * stN zs c ≤ 8 * zs.length then
    if 100000 < c.out.length + stN zs c then .inr (6, { c with stored := c.stored - stN zs c, lc := { c.lc with i := c.lc.i + 8 * stN zs c } })
    else .inl (tellC s { c with stored := c.stored - stN zs c, lc := { c.lc with i := c.lc.i + 8 * stN zs c } } ((zs.drop (c.lc.i / 8)).take (stN zs c)))
  else .inr (2, c)
set_option maxRecDepth 100000 in
set_option maxHeartbeats 6400000 in
theorem storedBytes_any (q p hB g s B : Nat) (zs : List Int) (aft : Value) (c : IC) (w : World) (hM : IMem q p hB g s B zs aft w c) (hs : c.st = 10) (h8 : c.lc.i % 8 = 0) (hst : c.stored ≤ 65535) (hol : c.out.length ≤ 100000) (hz : Octets zs) (hzl : zs.length ≤ 65536) :
    Calls Tryz.prog 63 #[.pointer (some ⟨q, 0, none⟩)] w fun e w' => IPost q p hB g s B zs aft (storedBytesS s zs c) e w w' := by
  have hqw := hM.lt
  have HM := hideM hM
  obtain ⟨T, hRr, _⟩ := hM.ex
  have q32 := hRr.c32
  have HA30 := hideM (fun ao n cap k e1 e2 => (hRr.at30 ao n cap k e1 e2).1)
  have HGD : Hid (g < w.heap.size) := by obtain ⟨rs, p, c, h1, _⟩ := hRr.rg; exact h1.lt
  by_cases h0 : c.stored = 0
  · rw [h0] at q32
    have HF : Hid (IPost q p hB g s B zs aft (storedBytesS s zs c) (.returned (.tuple #[.func (Fn.func 71) #[.pointer (some ⟨q, 0, none⟩)] #[], .nilIface])) w w) := by
      show IPost _ _ _ _ _ _ _ _ _ _ _ _
      unfold storedBytesS
      rw [if_pos h0]
      exact IPost.ok rfl (hM.at (by omega) 8 (by omega) (fun h _ => by omega)) (Below.refl _ _)
    clear hM hRr h0 hs HM
    go_enter Tryz.func63, Tryz.ntmps63
    go_wp2_with fail
    exact bodyPost_ret (v := .tuple #[.func (Fn.func 71) #[.pointer (some ⟨q, 0, none⟩)] #[], .nilIface]) (by simp [results, Tryz.results63, go_sem]) rfl HF.out
  · have h0b : ((c.stored : Int) == 0) = false := by simp; omega
    have hd : Below w.heap.size w w.drew := (Below.refl _ _).drew
    have hMd := hM.below hd
    have HMd := hideM hMd
    have HBd := hideM ((hd.mono (show B ≤ w.heap.size from by have := hM.bs; omega)))
    have HS := hideM hs
    have q0 := hM.lm.c0
    obtain ⟨oo, oc, q30, hO30, _⟩ := hRr.o30
    obtain ⟨pa, pc, p0, p1, p2, _⟩ := hM.lm.rd.seen
    have hpw : p < w.heap.size := hM.lm.rd.lt
    have hle := hM.lm.rd.le
    obtain ⟨m, hm⟩ : ∃ m, stN zs c = m := ⟨_, rfl⟩
    obtain ⟨Lh, hLh⟩ : ∃ x, zs.length - c.lc.i / 8 = x := ⟨_, rfl⟩
    rw [hLh] at p0
    obtain ⟨N, hN⟩ : ∃ N, c.out.length = N := ⟨_, rfl⟩
    rw [hN] at q30
    have hm' : m = max 1 (min (min c.stored Lh) (100000 - N)) := by rw [← hm, ← hLh, ← hN]; rfl
    obtain ⟨mm, hmin⟩ : ∃ mm : Int, min (min (c.stored : Int) (Lh : Int)) (100000 - (N : Int)) = mm := ⟨_, rfl⟩
    have hmax : max 1 mm = (m : Int) := by omega
    have hLD : m ≤ Lh → ((zs.drop (c.lc.i / 8)).take m).length = m := fun h => by rw [List.length_take, List.length_drop]; omega
    have hm1 : 1 ≤ m := by omega
    have hmb : m ≤ 100000 := by omega
    have HMM := hideM hm
    have HM' := hideM hm'
    have HH := hideM (And.intro hLh hN)
    clear hs hRr hO30 p2 hmin hmax hm' hm hLh hN
    have HD : Hid ((c.lc.i + 8 * m ≤ 8 * zs.length) ∨ ¬ (c.lc.i + 8 * m ≤ 8 * zs.length)) := Classical.em _
    have hNb : N ≤ 100000 := by have := HH.out; omega
    have hLb : Lh ≤ 65536 := by have := HH.out; omega
    have hms : m ≤ c.stored := by have := HM'.out; omega
    go_enter Tryz.func63, Tryz.ntmps63
    go_upto_region 3 with fail
    go_cut [4] from 14 to 36 (fun v wx => v = .int .i64 (m : Nat) ∧ wx = w.drew)
    case first =>
      go_region
      all_goals go_wp2_with fail
      all_goals go_meet
      all_goals exact ⟨congrArg (Value.int .i64) (by have := HM'.out; omega), rfl⟩
    case rest =>
    obtain ⟨rfl, hwx⟩ := hcut
    rw [hwx]
    clear hwx q0 p0 p1 q30
    have dq : q < w.drew.heap.size := hqw
    by_cases hn : c.lc.i + 8 * m ≤ 8 * zs.length
    · have hmL : m ≤ Lh := by have := HH.out; omega
      have HLD := hideM (hLD hmL)
      have DA := hideM (data_yes q p hB zs c.lc.i m w.drew hMd.lm.c0 hMd.lm.rd h8 hzl hm1 hn)
      clear hM hMd hLD
      by_cases h6 : 100000 < c.out.length + m
      · go_wp2_with fail
        refine Calls.mono DA.out ?_
        rintro e w1 ⟨bo, bc, rfl, hMi, hR, hg⟩
        have h1 := HMd.out.went hR hg
        have h2 := h1.setq 32 (by omega) (.int .i64 ((c.stored : Int) - (m : Int))) c.last (c.stored - m) c.base c.extra c.len (by simp) (by simp; omega) (by simp) (by simp) (by simp)
        obtain ⟨T1, hR1, _⟩ := h1.ex
        have q32 := hR1.c32
        have f32 := h1.lm.free 32
        have hq1 := h1.lt
        have hgl : g < w1.heap.size := by obtain ⟨rs, p, c, h1, _⟩ := hR1.rg; exact h1.lt
        have hg2 := grownBy_setCell w1 ⟨q, 32, none⟩ (.int .i64 ((c.stored : Int) - (m : Int)))
        have hwd : w.drew.heap.size ≤ w1.heap.size := hg.size
        have hsep : ∀ ad, bo = some ad → w.drew.heap.size ≤ ad.block ∧ ad.block < w1.heap.size := fun ad e => ⟨(hMi.lies ad e).1, (hMi.lies ad e).2.1⟩
        have hMi2 := hMi.grown hg2 (fun k e e2 => by
          cases bo with
          | none => cases e2
          | some ad =>
            have h5 := (hsep ad rfl).1
            have h6 : q < w.drew.heap.size := hqw
            simp [blk] at e2
            simp at e
            omega)
        have TE := hideM (tell_any q p hB g s B zs aft _ bo bc ((zs.drop (c.lc.i / 8)).take m) _ h2 (by have := HS.out; show 7 ≤ c.st; omega) (show c.out.length ≤ 100000 from hol) hMi2.row (fun e => ⟨by have := hMi2.bare e; have := hMi2.fits; omega, hMi2.bare e⟩) hMi2.fits hMi2.most (by rw [HLD.out]; omega) (fun ad e => by
          have h5 := hsep ad e
          have h6 : q < w.drew.heap.size := hqw
          have h7 : g < w.drew.heap.size := HGD.out
          refine ⟨by omega, by omega, fun ao n cap e1 e2 => ?_⟩
          have h8 := HA30.out ao n cap _ (by
            rw [World.cell?_setCell_other _ _ _ _ (by simp), cellFar hg hqw HM.out.lm.ne 30] at e1
            exact e1) e2
          have h9 : ad.block < w.drew.heap.size := h8
          omega))
        rw [HLD.out] at TE
        have HB3 := hideM ((HBd.out.trans (HMd.out.bel hg)).trans (h1.belq 32 (.int .i64 ((c.stored : Int) - (m : Int)))))
        dsimp only at q32
        clear h1 h2 hR1 hR hg hMi hMi2 hsep hg2 hwd hgl DA HBd HMd HM
        go_wp2_with fail
        refine Calls.mono TE.out ?_
        rintro e w4 hP
        unfold TellPost at hP
        rw [HLD.out] at hP
        obtain ⟨rfl, hX, hT⟩ := hP.2 (show 100000 < c.out.length + m from h6)
        have HF : Hid (IPost q p hB g s B zs aft (storedBytesS s zs c) (.returned (.tuple #[.func (Fn.func 63) #[.pointer (some ⟨q, 0, none⟩)] #[], flt 6])) w w4) := by
          show IPost _ _ _ _ _ _ _ _ _ _ _ _
          unfold storedBytesS
          rw [if_neg h0, HMM.out, if_pos hn, if_pos h6]
          exact IPost.no hX (HB3.out.trans hT)
        clear hP hX hT TE HB3
        go_wp2_with fail
        exact bodyPost_ret (v := .tuple #[.func (Fn.func 63) #[.pointer (some ⟨q, 0, none⟩)] #[], flt 6]) (by simp [results, Tryz.results63, go_sem, flt]) rfl HF.out
      · go_wp2_with fail
        refine Calls.mono DA.out ?_
        rintro e w1 ⟨bo, bc, rfl, hMi, hR, hg⟩
        have h1 := HMd.out.went hR hg
        have h2 := h1.setq 32 (by omega) (.int .i64 ((c.stored : Int) - (m : Int))) c.last (c.stored - m) c.base c.extra c.len (by simp) (by simp; omega) (by simp) (by simp) (by simp)
        obtain ⟨T1, hR1, _⟩ := h1.ex
        have q32 := hR1.c32
        have f32 := h1.lm.free 32
        have hq1 := h1.lt
        have hgl : g < w1.heap.size := by obtain ⟨rs, p, c, h1, _⟩ := hR1.rg; exact h1.lt
        have hg2 := grownBy_setCell w1 ⟨q, 32, none⟩ (.int .i64 ((c.stored : Int) - (m : Int)))
        have hwd : w.drew.heap.size ≤ w1.heap.size := hg.size
        have hsep : ∀ ad, bo = some ad → w.drew.heap.size ≤ ad.block ∧ ad.block < w1.heap.size := fun ad e => ⟨(hMi.lies ad e).1, (hMi.lies ad e).2.1⟩
        have hMi2 := hMi.grown hg2 (fun k e e2 => by
          cases bo with
          | none => cases e2
          | some ad =>
            have h5 := (hsep ad rfl).1
            have h6 : q < w.drew.heap.size := hqw
            simp [blk] at e2
            simp at e
            omega)
        have TE := hideM (tell_any q p hB g s B zs aft _ bo bc ((zs.drop (c.lc.i / 8)).take m) _ h2 (by have := HS.out; show 7 ≤ c.st; omega) (show c.out.length ≤ 100000 from hol) hMi2.row (fun e => ⟨by have := hMi2.bare e; have := hMi2.fits; omega, hMi2.bare e⟩) hMi2.fits hMi2.most (by rw [HLD.out]; omega) (fun ad e => by
          have h5 := hsep ad e
          have h6 : q < w.drew.heap.size := hqw
          have h7 : g < w.drew.heap.size := HGD.out
          refine ⟨by omega, by omega, fun ao n cap e1 e2 => ?_⟩
          have h8 := HA30.out ao n cap _ (by
            rw [World.cell?_setCell_other _ _ _ _ (by simp), cellFar hg hqw HM.out.lm.ne 30] at e1
            exact e1) e2
          have h9 : ad.block < w.drew.heap.size := h8
          omega))
        rw [HLD.out] at TE
        have HB3 := hideM ((HBd.out.trans (HMd.out.bel hg)).trans (h1.belq 32 (.int .i64 ((c.stored : Int) - (m : Int)))))
        dsimp only at q32
        clear h1 h2 hR1 hR hg hMi hMi2 hsep hg2 hwd hgl DA HBd HMd HM
        go_wp2_with fail
        refine Calls.mono TE.out ?_
        rintro e w4 hP
        unfold TellPost at hP
        rw [HLD.out] at hP
        obtain ⟨rfl, hX, hT⟩ := hP.1 (show c.out.length + m ≤ 100000 by omega)
        have HF : Hid (IPost q p hB g s B zs aft (storedBytesS s zs c) (.returned (.tuple #[.func (Fn.func 63) #[.pointer (some ⟨q, 0, none⟩)] #[], .nilIface])) w w4) := by
          show IPost _ _ _ _ _ _ _ _ _ _ _ _
          unfold storedBytesS
          rw [if_neg h0, HMM.out, if_pos hn, if_neg h6]
          exact IPost.ok (by have := HS.out; show _ = inow q aft c.st; rw [this]; rfl) hX (HB3.out.trans hT)
        clear hP hX hT TE HB3
        go_wp2_with fail
        exact bodyPost_ret (v := .tuple #[.func (Fn.func 63) #[.pointer (some ⟨q, 0, none⟩)] #[], .nilIface]) (by simp [results, Tryz.results63, go_sem]) rfl HF.out
    · have DA := hideM (data_no q p hB zs c.lc.i m w.drew hMd.lm.c0 hMd.lm.rd h8 hzl hn)
      have HBS := hideM hM.bs
      clear hM hMd hLD
      unfold flt at DA
      go_wp2_with fail
      refine Calls.mono DA.out ?_
      rintro e w1 ⟨rfl, hb⟩
      have HF : Hid (IPost q p hB g s B zs aft (storedBytesS s zs c) (.returned (.tuple #[.nilFunc, flt 2])) w w1) := by
        show IPost _ _ _ _ _ _ _ _ _ _ _ _
        unfold storedBytesS
        rw [if_neg h0, HMM.out, if_neg hn]
        exact IPost.no (HMd.out.below hb) (HBd.out.trans (hb.mono (show B ≤ w.drew.heap.size from by have := HBS.out; show B ≤ w.heap.size; omega)))
      clear hb DA HM hd HMd HBd q32
      go_wp2_with fail
      exact bodyPost_ret (v := .tuple #[.nilFunc, flt 2]) (by simp [results, Tryz.results63, go_sem, flt]) rfl HF.out
end Go.Proofs.YtlfabilmilkboaaGreatDoor
