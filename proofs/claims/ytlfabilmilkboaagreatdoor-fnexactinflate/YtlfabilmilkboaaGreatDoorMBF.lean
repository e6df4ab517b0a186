import Derived.Test.YtlfabilmilkboaaGreatDoorMBE
namespace Go.Proofs.YtlfabilmilkboaaGreatDoor
open Go.RowKit
attribute [local go_sem ↓] Go.wp_at_zero Go.wp_at_succ
set_option linter.unusedVariables false

theorem row_one8 (w : World) (x : Nat) (t : TypeId) : Row (w.alloc (.cells #[.int .u8 (x : Nat)] t)) (some ⟨w.heap.size, 0, none⟩) [(x : Int)] := by
  intro i hi
  have h0 : i = 0 := by simp at hi; omega
  subst h0
  exact ⟨w.heap.size, 0, rfl, by simp [go_sem]⟩
/-- literal. -/
def literalS (s : Nat) (zs : List Int) (c : IC) : IC ⊕ (Int × IC) :=
  if (nx3 c.ul (field (bnum zs) c.lc.i (Nat.min (8 * zs.length - c.lc.i) 15)) (Nat.min (8 * zs.length - c.lc.i) 15)).1 = 1 then
    if (nx3 c.ul (field (bnum zs) c.lc.i (Nat.min (8 * zs.length - c.lc.i) 15)) (Nat.min (8 * zs.length - c.lc.i) 15)).2.1 < 256 then
      if 100000 < c.out.length + 1 then .inr (6, { c with lc := { c.lc with i := c.lc.i + (nx3 c.ul (field (bnum zs) c.lc.i (Nat.min (8 * zs.length - c.lc.i) 15)) (Nat.min (8 * zs.length - c.lc.i) 15)).2.2 } }) else .inl (tellC s { c with lc := { c.lc with i := c.lc.i + (nx3 c.ul (field (bnum zs) c.lc.i (Nat.min (8 * zs.length - c.lc.i) 15)) (Nat.min (8 * zs.length - c.lc.i) 15)).2.2 } } [((nx3 c.ul (field (bnum zs) c.lc.i (Nat.min (8 * zs.length - c.lc.i) 15)) (Nat.min (8 * zs.length - c.lc.i) 15)).2.1 : Int)])
    else if (nx3 c.ul (field (bnum zs) c.lc.i (Nat.min (8 * zs.length - c.lc.i) 15)) (Nat.min (8 * zs.length - c.lc.i) 15)).2.1 = 256 then .inl { c with st := 8, lc := { c.lc with i := c.lc.i + (nx3 c.ul (field (bnum zs) c.lc.i (Nat.min (8 * zs.length - c.lc.i) 15)) (Nat.min (8 * zs.length - c.lc.i) 15)).2.2 } }
    else if 285 < (nx3 c.ul (field (bnum zs) c.lc.i (Nat.min (8 * zs.length - c.lc.i) 15)) (Nat.min (8 * zs.length - c.lc.i) 15)).2.1 then .inr (3, { c with lc := { c.lc with i := c.lc.i + (nx3 c.ul (field (bnum zs) c.lc.i (Nat.min (8 * zs.length - c.lc.i) 15)) (Nat.min (8 * zs.length - c.lc.i) 15)).2.2 } })
    else .inl { c with st := 13, base := (lenR (nx3 c.ul (field (bnum zs) c.lc.i (Nat.min (8 * zs.length - c.lc.i) 15)) (Nat.min (8 * zs.length - c.lc.i) 15)).2.1).1, extra := (lenR (nx3 c.ul (field (bnum zs) c.lc.i (Nat.min (8 * zs.length - c.lc.i) 15)) (Nat.min (8 * zs.length - c.lc.i) 15)).2.1).2, lc := { c.lc with i := c.lc.i + (nx3 c.ul (field (bnum zs) c.lc.i (Nat.min (8 * zs.length - c.lc.i) 15)) (Nat.min (8 * zs.length - c.lc.i) 15)).2.2 } }
  else if (nx3 c.ul (field (bnum zs) c.lc.i (Nat.min (8 * zs.length - c.lc.i) 15)) (Nat.min (8 * zs.length - c.lc.i) 15)).1 = 2 then .inr (2, c) else .inr (3, c)
set_option maxRecDepth 100000 in
set_option maxHeartbeats 6400000 in
theorem literal_any (q p hB g s B : Nat) (zs : List Int) (aft : Value) (c : IC) (w : World) (hM : IMem q p hB g s B zs aft w c) (hs : c.st = 12) (hol : c.out.length ≤ 100000) (hul : c.ul.length ≤ 320) (hz : Octets zs) (hzl : zs.length ≤ 65536) :
    Calls Tryz.prog 50 #[.pointer (some ⟨q, 0, none⟩)] w fun e w' => IPost q p hB g s B zs aft (literalS s zs c) e w w' := by
  have hqw := hM.lt
  have HM := hideM hM
  obtain ⟨T, hRr, _⟩ := hM.ex
  obtain ⟨u, lo, hi, q34, hBC, hTk⟩ := hRr.c34.2 (by omega) (by omega)
  have hup : u ≠ p := fun e => hRr.ne.2.2.2.2.2.1 (e ▸ hTk u hBC.ge hBC.lt)
  have huw : u < w.heap.size := hRr.tlt u (hTk u hBC.ge hBC.lt)
  obtain ⟨tl, Sl, ml, Ll, td, Sd, md, Ld, u0, u1, TL, TD⟩ := hBC.now
  have hd : Below w.heap.size w w.drew := (Below.refl _ _).drew
  have hMd := hM.below hd
  have HMd := hideM hMd
  have HBd := hideM ((hd.mono (show B ≤ w.heap.size from by have := hM.bs; omega)))
  obtain ⟨n, hn⟩ : ∃ n, Nat.min (8 * zs.length - c.lc.i) 15 = n := ⟨_, rfl⟩
  have HSY := hideM (symbol_any q p hB tl ml Sl Ll c.ul zs c.lc.i n w.drew hMd.lm.c0 hM.lm.ne hMd.lm.rd (TL.below hd) hz hzl hn)
  unfold literalS
  rw [hn]
  have hkd := nx3_kinds c.ul (field (bnum zs) c.lc.i n) n
  have hsy := nx3_sym (ls := c.ul) (b := field (bnum zs) c.lc.i n) (n := n)
  rcases hx : nx3 c.ul (field (bnum zs) c.lc.i n) n with ⟨k, s', l⟩
  rw [hx] at HSY hkd hsy
  dsimp only at hkd hsy ⊢
  have HBS := hideM hM.bs
  have HS := hideM hs
  clear hs
  clear hM hMd hx hRr hBC hTk TL TD u1
  by_cases hk1 : k = 1
  · subst hk1
    rw [if_pos rfl]
    obtain ⟨hs1, hl1⟩ := hsy rfl
    have HS1 : Hid (Calls Tryz.prog 69 #[.pointer (some ⟨q, 0, none⟩), .pointer (some ⟨tl, 0, none⟩)] w.drew fun e w' => e = .returned (.tuple #[.int .i64 (s' : Nat), .nilIface]) ∧ Rd w' p hB zs (c.lc.i + l) ∧ w.drew.grownBy w' (some p)) := Calls.mono HSY.out (fun e w' h => h.1 rfl)
    clear HSY hkd hsy
    by_cases h256 : s' < 256
    · rw [if_pos h256]
      have hb256 : decide ((s' : Int) < 256) = true := decide_eq_true (by omega)
      by_cases h6 : 100000 < c.out.length + 1
      · rw [if_pos h6]
        have hcv : IntKind.u8.wrap (s' : Int) = (s' : Int) := by rw [IntKind.wrap_u8]; omega
        go_enter Tryz.func50, Tryz.ntmps50
        go_upto_region 1 with fail
        go_region_held3 (fun w' => w'.cell? ⟨q, 34, none⟩ = some (.pointer (some ⟨u, 0, none⟩)) ∧ w'.cell? ⟨u, 0, none⟩ = some (.pointer (some ⟨tl, 0, none⟩)) ∧ q < w'.heap.size ∧ u < w'.heap.size)
          (first | (with_reducible assumption) | (go_keep; done) | (exact ⟨by assumption, by assumption, by assumption, by assumption⟩))
          ((go_at_call 69; refine Calls.mono HS1.out ?_; rintro e w2 ⟨rfl, hR, hg⟩; have K : w2.cell? ⟨q, 34, none⟩ = some (.pointer (some ⟨u, 0, none⟩)) ∧ w2.cell? ⟨u, 0, none⟩ = some (.pointer (some ⟨tl, 0, none⟩)) ∧ q < w2.heap.size ∧ u < w2.heap.size := ⟨hg.cell (show w.drew.cell? ⟨q, 34, none⟩ = some (.pointer (some ⟨u, 0, none⟩)) from q34) (by have := HM.out.lm.ne; simpa using this), hg.cell (show w.drew.cell? ⟨u, 0, none⟩ = some (.pointer (some ⟨tl, 0, none⟩)) from u0) (by simpa using hup), Nat.lt_of_lt_of_le hqw hg.size, Nat.lt_of_lt_of_le huw hg.size⟩; obtain ⟨K1, K2, K3, K4⟩ := K))
        have h1 := HMd.out.went hR hg
        have H1 := hideM h1
        have HB1 := hideM (HBd.out.trans (HMd.out.bel hg))
        have hq1 := h1.lt
        obtain ⟨T1, hR1, _⟩ := h1.ex
        have q35 := hR1.c35
        have q36 := hR1.c36
        have f35 := h1.lm.free 35
        have f36 := h1.lm.free 36
        clear h1 hR hg HS1 HM q34 u0 K1 K2 hd HMd HBd
        clear hR1 q35 q36 f35 f36
        have ba : Below w2.heap.size w2 (w2.alloc (.cells #[.int .u8 (s' : Nat)] 5)) := (Below.refl _ _).alloc (Nat.le_refl _) _
        have h3 := H1.out.below ba
        have TE := hideM (tell_any q p hB g s B zs aft _ (some ⟨w2.heap.size, 0, none⟩) 1 [(s' : Int)] _ h3 (by have := HS.out; show 7 ≤ c.st; omega) (show c.out.length ≤ 100000 from hol) (row_one8 w2 s' 5) (fun e => by cases e) (by simp) (by unfold maxLen; omega) (by simp) (fun ad e => by
          cases e
          obtain ⟨T3, hR3, _⟩ := H1.out.ex
          refine ⟨by show w2.heap.size ≠ q; omega, ?_, fun ao n cap e1 e2 => ?_⟩
          · have hgl : g < w2.heap.size := by obtain ⟨rs, p, c, h1, _⟩ := hR3.rg; exact h1.lt
            show w2.heap.size ≠ g
            omega
          · rw [ba.cell (p := ⟨q, 30, none⟩) hq1] at e1
            have := (hR3.at30 ao n cap w2.heap.size e1 e2).1
            omega))
        rw [show ([(s' : Int)] : List Int).length = 1 from rfl] at TE
        have HB3 := hideM (HB1.out.trans (ba.mono (show B ≤ w2.heap.size from by have := HBS.out; omega)))
        clear ba h3 H1 HB1
        go_wp2_with fail
        refine Calls.mono TE.out ?_
        rintro e w4 hP
        obtain ⟨rfl, hX, hT⟩ := hP.2 (show 100000 < c.out.length + 1 from h6)
        have HX := hideM hX
        have HT := hideM (HB3.out.trans hT)
        clear hP hX hT TE HB3
        go_wp2_with fail
        exact bodyPost_ret (v := .tuple #[.func (Fn.func 50) #[.pointer (some ⟨q, 0, none⟩)] #[], flt 6]) (by simp [results, Tryz.results50, go_sem, flt]) rfl (IPost.no HX.out HT.out)
      · rw [if_neg h6]
        have hcv : IntKind.u8.wrap (s' : Int) = (s' : Int) := by rw [IntKind.wrap_u8]; omega
        go_enter Tryz.func50, Tryz.ntmps50
        go_upto_region 1 with fail
        go_region_held3 (fun w' => w'.cell? ⟨q, 34, none⟩ = some (.pointer (some ⟨u, 0, none⟩)) ∧ w'.cell? ⟨u, 0, none⟩ = some (.pointer (some ⟨tl, 0, none⟩)) ∧ q < w'.heap.size ∧ u < w'.heap.size)
          (first | (with_reducible assumption) | (go_keep; done) | (exact ⟨by assumption, by assumption, by assumption, by assumption⟩))
          ((go_at_call 69; refine Calls.mono HS1.out ?_; rintro e w2 ⟨rfl, hR, hg⟩; have K : w2.cell? ⟨q, 34, none⟩ = some (.pointer (some ⟨u, 0, none⟩)) ∧ w2.cell? ⟨u, 0, none⟩ = some (.pointer (some ⟨tl, 0, none⟩)) ∧ q < w2.heap.size ∧ u < w2.heap.size := ⟨hg.cell (show w.drew.cell? ⟨q, 34, none⟩ = some (.pointer (some ⟨u, 0, none⟩)) from q34) (by have := HM.out.lm.ne; simpa using this), hg.cell (show w.drew.cell? ⟨u, 0, none⟩ = some (.pointer (some ⟨tl, 0, none⟩)) from u0) (by simpa using hup), Nat.lt_of_lt_of_le hqw hg.size, Nat.lt_of_lt_of_le huw hg.size⟩; obtain ⟨K1, K2, K3, K4⟩ := K))
        have h1 := HMd.out.went hR hg
        have H1 := hideM h1
        have HB1 := hideM (HBd.out.trans (HMd.out.bel hg))
        have hq1 := h1.lt
        obtain ⟨T1, hR1, _⟩ := h1.ex
        have q35 := hR1.c35
        have q36 := hR1.c36
        have f35 := h1.lm.free 35
        have f36 := h1.lm.free 36
        clear h1 hR hg HS1 HM q34 u0 K1 K2 hd HMd HBd
        clear hR1 q35 q36 f35 f36
        have ba : Below w2.heap.size w2 (w2.alloc (.cells #[.int .u8 (s' : Nat)] 5)) := (Below.refl _ _).alloc (Nat.le_refl _) _
        have h3 := H1.out.below ba
        have TE := hideM (tell_any q p hB g s B zs aft _ (some ⟨w2.heap.size, 0, none⟩) 1 [(s' : Int)] _ h3 (by have := HS.out; show 7 ≤ c.st; omega) (show c.out.length ≤ 100000 from hol) (row_one8 w2 s' 5) (fun e => by cases e) (by simp) (by unfold maxLen; omega) (by simp) (fun ad e => by
          cases e
          obtain ⟨T3, hR3, _⟩ := H1.out.ex
          refine ⟨by show w2.heap.size ≠ q; omega, ?_, fun ao n cap e1 e2 => ?_⟩
          · have hgl : g < w2.heap.size := by obtain ⟨rs, p, c, h1, _⟩ := hR3.rg; exact h1.lt
            show w2.heap.size ≠ g
            omega
          · rw [ba.cell (p := ⟨q, 30, none⟩) hq1] at e1
            have := (hR3.at30 ao n cap w2.heap.size e1 e2).1
            omega))
        rw [show ([(s' : Int)] : List Int).length = 1 from rfl] at TE
        have HB3 := hideM (HB1.out.trans (ba.mono (show B ≤ w2.heap.size from by have := HBS.out; omega)))
        clear ba h3 H1 HB1
        go_wp2_with fail
        refine Calls.mono TE.out ?_
        rintro e w4 hP
        obtain ⟨rfl, hX, hT⟩ := hP.1 (show c.out.length + 1 ≤ 100000 by omega)
        have HX := hideM hX
        have HT := hideM (HB3.out.trans hT)
        clear hP hX hT TE HB3
        go_wp2_with fail
        exact bodyPost_ret (v := .tuple #[.func (Fn.func 50) #[.pointer (some ⟨q, 0, none⟩)] #[], .nilIface]) (by simp [results, Tryz.results50, go_sem]) rfl (IPost.ok (by have := HS.out; show _ = inow q aft c.st; rw [this]; rfl) HX.out HT.out)
    · rw [if_neg h256]
      have hb256 : decide ((s' : Int) < 256) = false := decide_eq_false (by omega)
      by_cases he : s' = 256
      · rw [if_pos he]
        have hbe : ((s' : Int) == 256) = true := by simp; omega
        clear he
        go_enter Tryz.func50, Tryz.ntmps50
        go_upto_region 1 with fail
        go_region_held3 (fun w' => w'.cell? ⟨q, 34, none⟩ = some (.pointer (some ⟨u, 0, none⟩)) ∧ w'.cell? ⟨u, 0, none⟩ = some (.pointer (some ⟨tl, 0, none⟩)) ∧ q < w'.heap.size ∧ u < w'.heap.size)
          (first | (with_reducible assumption) | (go_keep; done) | (exact ⟨by assumption, by assumption, by assumption, by assumption⟩))
          ((go_at_call 69; refine Calls.mono HS1.out ?_; rintro e w2 ⟨rfl, hR, hg⟩; have K : w2.cell? ⟨q, 34, none⟩ = some (.pointer (some ⟨u, 0, none⟩)) ∧ w2.cell? ⟨u, 0, none⟩ = some (.pointer (some ⟨tl, 0, none⟩)) ∧ q < w2.heap.size ∧ u < w2.heap.size := ⟨hg.cell (show w.drew.cell? ⟨q, 34, none⟩ = some (.pointer (some ⟨u, 0, none⟩)) from q34) (by have := HM.out.lm.ne; simpa using this), hg.cell (show w.drew.cell? ⟨u, 0, none⟩ = some (.pointer (some ⟨tl, 0, none⟩)) from u0) (by simpa using hup), Nat.lt_of_lt_of_le hqw hg.size, Nat.lt_of_lt_of_le huw hg.size⟩; obtain ⟨K1, K2, K3, K4⟩ := K))
        have h1 := HMd.out.went hR hg
        have H1 := hideM h1
        have HB1 := hideM (HBd.out.trans (HMd.out.bel hg))
        have hq1 := h1.lt
        obtain ⟨T1, hR1, _⟩ := h1.ex
        have q35 := hR1.c35
        have q36 := hR1.c36
        have f35 := h1.lm.free 35
        have f36 := h1.lm.free 36
        clear h1 hR hg HS1 HM q34 u0 K1 K2 hd HMd HBd
        clear hR1 q35 q36 f35 f36
        go_wp2_with fail
        exact bodyPost_ret (v := .tuple #[.func (Fn.func 71) #[.pointer (some ⟨q, 0, none⟩)] #[], .nilIface]) (by simp [results, Tryz.results50, go_sem]) rfl (IPost.ok rfl (H1.out.at (by have := HS.out; show 7 ≤ c.st; omega) 8 (by omega) (fun h _ => by omega)) HB1.out)
      · rw [if_neg he]
        have hbe : ((s' : Int) == 256) = false := by simp; omega
        by_cases h285 : 285 < s'
        · rw [if_pos h285]
          have hb285 : decide ((s' : Int) > 285) = true := decide_eq_true (by omega)
          clear he
          go_enter Tryz.func50, Tryz.ntmps50
          go_upto_region 1 with fail
          go_region_held3 (fun w' => w'.cell? ⟨q, 34, none⟩ = some (.pointer (some ⟨u, 0, none⟩)) ∧ w'.cell? ⟨u, 0, none⟩ = some (.pointer (some ⟨tl, 0, none⟩)) ∧ q < w'.heap.size ∧ u < w'.heap.size)
            (first | (with_reducible assumption) | (go_keep; done) | (exact ⟨by assumption, by assumption, by assumption, by assumption⟩))
            ((go_at_call 69; refine Calls.mono HS1.out ?_; rintro e w2 ⟨rfl, hR, hg⟩; have K : w2.cell? ⟨q, 34, none⟩ = some (.pointer (some ⟨u, 0, none⟩)) ∧ w2.cell? ⟨u, 0, none⟩ = some (.pointer (some ⟨tl, 0, none⟩)) ∧ q < w2.heap.size ∧ u < w2.heap.size := ⟨hg.cell (show w.drew.cell? ⟨q, 34, none⟩ = some (.pointer (some ⟨u, 0, none⟩)) from q34) (by have := HM.out.lm.ne; simpa using this), hg.cell (show w.drew.cell? ⟨u, 0, none⟩ = some (.pointer (some ⟨tl, 0, none⟩)) from u0) (by simpa using hup), Nat.lt_of_lt_of_le hqw hg.size, Nat.lt_of_lt_of_le huw hg.size⟩; obtain ⟨K1, K2, K3, K4⟩ := K))
          have h1 := HMd.out.went hR hg
          have H1 := hideM h1
          have HB1 := hideM (HBd.out.trans (HMd.out.bel hg))
          have hq1 := h1.lt
          obtain ⟨T1, hR1, _⟩ := h1.ex
          have q35 := hR1.c35
          have q36 := hR1.c36
          have f35 := h1.lm.free 35
          have f36 := h1.lm.free 36
          clear h1 hR hg HS1 HM q34 u0 K1 K2 hd HMd HBd
          clear hR1 q35 q36 f35 f36
          go_wp2_with fail
          exact bodyPost_ret (v := .tuple #[.nilFunc, flt 3]) (by simp [results, Tryz.results50, go_sem, flt]) rfl (IPost.no H1.out HB1.out)
        · rw [if_neg h285]
          have hb285 : decide ((s' : Int) > 285) = false := decide_eq_false (by omega)
          obtain ⟨ba, ex, hbx⟩ : ∃ ba ex, lenR s' = (ba, ex) := ⟨_, _, rfl⟩
          rw [hbx]
          dsimp only
          have HBE := hideM hbx
          clear hbx
          go_enter Tryz.func50, Tryz.ntmps50
          go_upto_region 1 with fail
          go_region_held3 (fun w' => w'.cell? ⟨q, 34, none⟩ = some (.pointer (some ⟨u, 0, none⟩)) ∧ w'.cell? ⟨u, 0, none⟩ = some (.pointer (some ⟨tl, 0, none⟩)) ∧ q < w'.heap.size ∧ u < w'.heap.size)
            (first | (with_reducible assumption) | (go_keep; done) | (exact ⟨by assumption, by assumption, by assumption, by assumption⟩))
            ((go_at_call 69; refine Calls.mono HS1.out ?_; rintro e w2 ⟨rfl, hR, hg⟩; have K : w2.cell? ⟨q, 34, none⟩ = some (.pointer (some ⟨u, 0, none⟩)) ∧ w2.cell? ⟨u, 0, none⟩ = some (.pointer (some ⟨tl, 0, none⟩)) ∧ q < w2.heap.size ∧ u < w2.heap.size := ⟨hg.cell (show w.drew.cell? ⟨q, 34, none⟩ = some (.pointer (some ⟨u, 0, none⟩)) from q34) (by have := HM.out.lm.ne; simpa using this), hg.cell (show w.drew.cell? ⟨u, 0, none⟩ = some (.pointer (some ⟨tl, 0, none⟩)) from u0) (by simpa using hup), Nat.lt_of_lt_of_le hqw hg.size, Nat.lt_of_lt_of_le huw hg.size⟩; obtain ⟨K1, K2, K3, K4⟩ := K))
          have h1 := HMd.out.went hR hg
          have H1 := hideM h1
          have HB1 := hideM (HBd.out.trans (HMd.out.bel hg))
          have hq1 := h1.lt
          obtain ⟨T1, hR1, _⟩ := h1.ex
          have q35 := hR1.c35
          have q36 := hR1.c36
          have f35 := h1.lm.free 35
          have f36 := h1.lm.free 36
          clear h1 hR hg HS1 HM q34 u0 K1 K2 hd HMd HBd
          have LR := hideM (lengthRange_any s' (by omega) (by omega) w2)
          rw [HBE.out] at LR
          dsimp only at LR
          have HX := hideM ((H1.out.setq 35 (by omega) (.int .i64 (ba : Nat)) c.last c.stored ba c.extra c.len (by simp) (by simp) (by simp) (by simp) (by simp)).setq 36 (by omega) (.int .i64 (ex : Nat)) c.last c.stored ba ex c.len (by simp) (by simp) (by simp) (by simp) (by simp))
          have HT := hideM ((HB1.out.trans (H1.out.belq 35 (.int .i64 (ba : Nat)))).trans ((H1.out.setq 35 (by omega) (.int .i64 (ba : Nat)) c.last c.stored ba c.extra c.len (by simp) (by simp) (by simp) (by simp) (by simp)).belq 36 (.int .i64 (ex : Nat))))
          clear H1 HB1 hR1 HBE
          dsimp only at q35 q36
          go_wp2_with fail
          refine Calls.mono LR.out ?_
          rintro e w3 ⟨rfl, rfl⟩
          go_wp2_with fail
          exact bodyPost_ret (v := .tuple #[.func (Fn.func 73) #[.pointer (some ⟨q, 0, none⟩)] #[], .nilIface]) (by simp [results, Tryz.results50, go_sem]) rfl (IPost.ok rfl (HX.out.at (by have := HS.out; show 7 ≤ c.st; omega) 13 (by omega) (fun _ _ => ⟨by have := HS.out; show 12 ≤ c.st; omega, by have := HS.out; show c.st ≤ 15; omega⟩)) HT.out)
  · rw [if_neg hk1]
    have hcl : ∃ dd : Int, (dd = 2 ∨ dd = 3) ∧ (if k = 2 then (.inr (2, c) : IC ⊕ (Int × IC)) else .inr (3, c)) = .inr (dd, c) ∧ Hid (Calls Tryz.prog 69 #[.pointer (some ⟨q, 0, none⟩), .pointer (some ⟨tl, 0, none⟩)] w.drew fun e w' => e = .returned (.tuple #[.int .i64 0, flt dd]) ∧ Below w.drew.heap.size w.drew w') := by
      rcases hkd with rfl | rfl | rfl
      · exact ⟨3, .inr rfl, rfl, Calls.mono HSY.out (fun e w' h => h.2.2 rfl)⟩
      · exact absurd rfl hk1
      · exact ⟨2, .inl rfl, rfl, Calls.mono HSY.out (fun e w' h => h.2.1 rfl)⟩
    obtain ⟨dd, _, hdd, HS1⟩ := hcl
    rw [hdd]
    clear HSY hkd hdd hsy hk1
    unfold flt at HS1
    go_enter Tryz.func50, Tryz.ntmps50
    go_upto_region 1 with fail
    go_region_held3 (fun w' => w'.cell? ⟨q, 34, none⟩ = some (.pointer (some ⟨u, 0, none⟩)) ∧ w'.cell? ⟨u, 0, none⟩ = some (.pointer (some ⟨tl, 0, none⟩)) ∧ q < w'.heap.size ∧ u < w'.heap.size)
      (first | (with_reducible assumption) | (go_keep; done) | (exact ⟨by assumption, by assumption, by assumption, by assumption⟩))
      ((go_at_call 69; refine Calls.mono HS1.out ?_; rintro e w2 ⟨rfl, hb⟩; have K : w2.cell? ⟨q, 34, none⟩ = some (.pointer (some ⟨u, 0, none⟩)) ∧ w2.cell? ⟨u, 0, none⟩ = some (.pointer (some ⟨tl, 0, none⟩)) ∧ q < w2.heap.size ∧ u < w2.heap.size := ⟨(hb.cell (p := ⟨q, 34, none⟩) hqw).trans q34, (hb.cell (p := ⟨u, 0, none⟩) huw).trans u0, Nat.lt_of_lt_of_le hqw hb.size, Nat.lt_of_lt_of_le huw hb.size⟩; obtain ⟨K1, K2, K3, K4⟩ := K))
    have HM2 := hideM (HMd.out.below hb)
    have HT2 := hideM (HBd.out.trans (hb.mono (show B ≤ w.drew.heap.size from by have := HBS.out; show B ≤ w.heap.size; omega)))
    clear hb HS1 HM q34 u0 K1 K2 hd HMd HBd
    go_wp2_with fail
    exact bodyPost_ret (v := .tuple #[.nilFunc, flt dd]) (by simp [results, Tryz.results50, go_sem, flt]) rfl (IPost.no HM2.out HT2.out)
end Go.Proofs.YtlfabilmilkboaaGreatDoor
