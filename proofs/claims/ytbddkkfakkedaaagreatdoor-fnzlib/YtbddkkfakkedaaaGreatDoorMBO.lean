import Derived.Test.YtbddkkfakkedaaaGreatDoorMBN
namespace Go.Proofs.YtbddkkfakkedaaaGreatDoor
open Go.RowKit
variable {KH : Nat → Option Obj}
attribute [local go_sem ↓] Go.wp_at_zero Go.wp_at_succ
set_option linter.unusedVariables false

theorem row_one8 (w : World) (x : Nat) (t : TypeId) : Row (w.alloc (.cells #[.int .u8 (x : Nat)] t)) (some ⟨w.heap.size, 0, none⟩) [(x : Int)] := by
  intro i hi
  have h0 : i = 0 := by simp at hi; omega
  subst h0
  exact ⟨w.heap.size, 0, rfl, by simp [go_sem]⟩
/-- literal. -/
def literalS (s : Nat) (zs : List Int) (c : IC) : IC ⊕ (Int × IC) :=
  if (nx3 c.ul (field (bnum zs) c.lc.i (Nat.min (8 * zs.length - c.lc.i) 15)) (Nat.min (8 * zs.length - c.lc.i) 15)).1 = 1 then
    if (nx3 c.ul (field (bnum zs) c.lc.i (Nat.min (8 * zs.length - c.lc.i) 15)) (Nat.min (8 * zs.length - c.lc.i) 15)).2.1 < 256 then
      if 100000 < c.out.length + 1 then .inr (6, { c with lc := { c.lc with i := c.lc.i + (nx3 c.ul (field (bnum zs) c.lc.i (Nat.min (8 * zs.length - c.lc.i) 15)) (Nat.min (8 * zs.length - c.lc.i) 15)).2.2 } }) else .inl (tellC s { c with lc := { c.lc with i := c.lc.i + (nx3 c.ul (field (bnum zs) c.lc.i (Nat.min (8 * zs.length - c.lc.i) 15)) (Nat.min (8 * zs.length - c.lc.i) 15)).2.2 } } [((nx3 c.ul (field (bnum zs) c.lc.i (Nat.min (8 * zs.length - c.lc.i) 15)) (Nat.min (8 * zs.length - c.lc.i) 15)).2.1 : Int)])
    else if (nx3 c.ul (field (bnum zs) c.lc.i (Nat.min (8 * zs.length - c.lc.i) 15)) (Nat.min (8 * zs.length - c.lc.i) 15)).2.1 = 256 then .inl { c with st := 8, lc := { c.lc with i := c.lc.i + (nx3 c.ul (field (bnum zs) c.lc.i (Nat.min (8 * zs.length - c.lc.i) 15)) (Nat.min (8 * zs.length - c.lc.i) 15)).2.2 } }
    else if 285 < (nx3 c.ul (field (bnum zs) c.lc.i (Nat.min (8 * zs.length - c.lc.i) 15)) (Nat.min (8 * zs.length - c.lc.i) 15)).2.1 then .inr (3, { c with lc := { c.lc with i := c.lc.i + (nx3 c.ul (field (bnum zs) c.lc.i (Nat.min (8 * zs.length - c.lc.i) 15)) (Nat.min (8 * zs.length - c.lc.i) 15)).2.2 } })
    else .inl { c with st := 13, base := (lenR (nx3 c.ul (field (bnum zs) c.lc.i (Nat.min (8 * zs.length - c.lc.i) 15)) (Nat.min (8 * zs.length - c.lc.i) 15)).2.1).1, extra := (lenR (nx3 c.ul (field (bnum zs) c.lc.i (Nat.min (8 * zs.length - c.lc.i) 15)) (Nat.min (8 * zs.length - c.lc.i) 15)).2.1).2, lc := { c.lc with i := c.lc.i + (nx3 c.ul (field (bnum zs) c.lc.i (Nat.min (8 * zs.length - c.lc.i) 15)) (Nat.min (8 * zs.length - c.lc.i) 15)).2.2 } }
  else if (nx3 c.ul (field (bnum zs) c.lc.i (Nat.min (8 * zs.length - c.lc.i) 15)) (Nat.min (8 * zs.length - c.lc.i) 15)).1 = 2 then .inr (2, c) else .inr (3, c)
set_option maxRecDepth 100000 in
set_option maxHeartbeats 6400000 in
theorem literal_any (q p hB g s B : Nat) (zs : List Int) (aft : Value) (c : IC) (w : World) (hM : IMem KH q p hB g s B zs aft w c) (hs : c.st = 12) (hol : c.out.length ≤ 100000) (hul : c.ul.length ≤ 320) (hz : Octets zs) (hzl : zs.length ≤ 65536) :
    Calls Tryz.prog 129 #[.pointer (some ⟨q, 0, none⟩)] w fun e w' => IPost KH q p hB g s B zs aft (literalS s zs c) e w w' := by
  have hqw := hM.lt
  have HM := hideM hM
  obtain ⟨T, hRr, _⟩ := hM.ex
  obtain ⟨u, lo, hi, q34, hBC, hTk⟩ := hRr.c34.2 (by omega) (by omega)
  have hup : u ≠ p := fun e => hRr.ne.2.2.2.2.2.1 (e ▸ hTk u hBC.ge hBC.lt)
  have huw : u < w.heap.size := hRr.tlt u (hTk u hBC.ge hBC.lt)
  obtain ⟨tl, Sl, ml, Ll, td, Sd, md, Ld, u0, u1, TL, TD⟩ := hBC.now
  have hd : Below w.heap.size w w.drew := (Below.refl _ _).drew
  have hMd := hM.below hd
  have HMd := hideM hMd
  have HBd := hideM ((hd.mono (show B ≤ w.heap.size from by have := hM.bs; omega)))
  obtain ⟨n, hn⟩ : ∃ n, Nat.min (8 * zs.length - c.lc.i) 15 = n := ⟨_, rfl⟩
  have HSY := hideM (symbol_any q p hB tl ml Sl Ll c.ul zs c.lc.i n w.drew hMd.lm.c0 hM.lm.ne hMd.lm.rd (TL.below hd) hz hzl hn)
  unfold literalS
  rw [hn]
  have hkd := nx3_kinds c.ul (field (bnum zs) c.lc.i n) n
  have hsy := nx3_sym (ls := c.ul) (b := field (bnum zs) c.lc.i n) (n := n)
  rcases hx : nx3 c.ul (field (bnum zs) c.lc.i n) n with ⟨k, s', l⟩
  rw [hx] at HSY hkd hsy
  dsimp only at hkd hsy ⊢
  have HBS := hideM hM.bs
  have HS := hideM hs
  clear hs
  clear hM hMd hx hRr hBC hTk TL TD u1
  by_cases hk1 : k = 1
  · subst hk1
    rw [if_pos rfl]
    obtain ⟨hs1, hl1⟩ := hsy rfl
    have HS1 : Hid (Calls Tryz.prog 156 #[.pointer (some ⟨q, 0, none⟩), .pointer (some ⟨tl, 0, none⟩)] w.drew fun e w' => e = .returned (.tuple #[.int .i64 (s' : Nat), .nilIface]) ∧ Rd w' p hB zs (c.lc.i + l) ∧ w.drew.grownBy w' (some p)) := Calls.mono HSY.out (fun e w' h => h.1 rfl)
    clear HSY hkd hsy
    by_cases h256 : s' < 256
    · rw [if_pos h256]
      have hb256 : decide ((s' : Int) < 256) = true := decide_eq_true (by omega)
      by_cases h6 : 100000 < c.out.length + 1
      · rw [if_pos h6]
        have hcv : IntKind.u8.wrap (s' : Int) = (s' : Int) := by rw [IntKind.wrap_u8]; omega
        go_enter Tryz.func129, Tryz.ntmps129
        go_upto_region 1 with fail
        go_region_held3 (fun w' => w'.cell? ⟨q, 34, none⟩ = some (.pointer (some ⟨u, 0, none⟩)) ∧ w'.cell? ⟨u, 0, none⟩ = some (.pointer (some ⟨tl, 0, none⟩)) ∧ q < w'.heap.size ∧ u < w'.heap.size)
          (first | (with_reducible assumption) | (go_keep; done) | (exact ⟨by assumption, by assumption, by assumption, by assumption⟩))
          ((go_at_call 156; refine Calls.mono HS1.out ?_; rintro e w2 ⟨rfl, hR, hg⟩; have K : w2.cell? ⟨q, 34, none⟩ = some (.pointer (some ⟨u, 0, none⟩)) ∧ w2.cell? ⟨u, 0, none⟩ = some (.pointer (some ⟨tl, 0, none⟩)) ∧ q < w2.heap.size ∧ u < w2.heap.size := ⟨hg.cell (show w.drew.cell? ⟨q, 34, none⟩ = some (.pointer (some ⟨u, 0, none⟩)) from q34) (by have := HM.out.lm.ne; simpa using this), hg.cell (show w.drew.cell? ⟨u, 0, none⟩ = some (.pointer (some ⟨tl, 0, none⟩)) from u0) (by simpa using hup), Nat.lt_of_lt_of_le hqw hg.size, Nat.lt_of_lt_of_le huw hg.size⟩; obtain ⟨K1, K2, K3, K4⟩ := K))
        have h1 := HMd.out.went hR hg
        have H1 := hideM h1
        have HB1 := hideM (HBd.out.trans (HMd.out.bel hg))
        have hq1 := h1.lt
        obtain ⟨T1, hR1, _⟩ := h1.ex
        have q35 := hR1.c35
        have q36 := hR1.c36
        have f35 := h1.lm.free 35
        have f36 := h1.lm.free 36
        clear h1 hR hg HS1 HM q34 u0 K1 K2 hd HMd HBd
        clear hR1 q35 q36 f35 f36
        have ba : Below w2.heap.size w2 (w2.alloc (.cells #[.int .u8 (s' : Nat)] 5)) := (Below.refl _ _).alloc (Nat.le_refl _) _
        have h3 := H1.out.below ba
        have TE := hideM (tell_any q p hB g s B zs aft _ (some ⟨w2.heap.size, 0, none⟩) 1 [(s' : Int)] _ h3 (by have := HS.out; show 7 ≤ c.st; omega) (show c.out.length ≤ 100000 from hol) (row_one8 w2 s' 5) (fun e => by cases e) (by simp) (by unfold maxLen; omega) (by simp) (fun ad e => by
          cases e
          obtain ⟨T3, hR3, _⟩ := H1.out.ex
          refine ⟨by show w2.heap.size ≠ q; omega, ?_, fun ao n cap e1 e2 => ?_⟩
          · have hgl : g < w2.heap.size := by obtain ⟨rs, p, c, h1, _⟩ := hR3.rg; exact h1.lt
            show w2.heap.size ≠ g
            omega
          · rw [ba.cell (p := ⟨q, 30, none⟩) hq1] at e1
            have := (hR3.at30 ao n cap w2.heap.size e1 e2).1
            omega))
        rw [show ([(s' : Int)] : List Int).length = 1 from rfl] at TE
        have HB3 := hideM (HB1.out.trans (ba.mono (show B ≤ w2.heap.size from by have := HBS.out; omega)))
        clear ba h3 H1 HB1
        go_wp2_with fail
        refine Calls.mono TE.out ?_
        rintro e w4 hP
        obtain ⟨rfl, hX, hT⟩ := hP.2 (show 100000 < c.out.length + 1 from h6)
        have HX := hideM hX
        have HT := hideM (HB3.out.trans hT)
        clear hP hX hT TE HB3
        go_wp2_with fail
        exact bodyPost_ret (v := .tuple #[.func (Fn.func 129) #[.pointer (some ⟨q, 0, none⟩)] #[], flt 6]) (by simp [results, Tryz.results129, go_sem, flt]) rfl (IPost.no HX.out HT.out)
      · rw [if_neg h6]
        have hcv : IntKind.u8.wrap (s' : Int) = (s' : Int) := by rw [IntKind.wrap_u8]; omega
        go_enter Tryz.func129, Tryz.ntmps129
        go_upto_region 1 with fail
        go_region_held3 (fun w' => w'.cell? ⟨q, 34, none⟩ = some (.pointer (some ⟨u, 0, none⟩)) ∧ w'.cell? ⟨u, 0, none⟩ = some (.pointer (some ⟨tl, 0, none⟩)) ∧ q < w'.heap.size ∧ u < w'.heap.size)
          (first | (with_reducible assumption) | (go_keep; done) | (exact ⟨by assumption, by assumption, by assumption, by assumption⟩))
          ((go_at_call 156; refine Calls.mono HS1.out ?_; rintro e w2 ⟨rfl, hR, hg⟩; have K : w2.cell? ⟨q, 34, none⟩ = some (.pointer (some ⟨u, 0, none⟩)) ∧ w2.cell? ⟨u, 0, none⟩ = some (.pointer (some ⟨tl, 0, none⟩)) ∧ q < w2.heap.size ∧ u < w2.heap.size := ⟨hg.cell (show w.drew.cell? ⟨q, 34, none⟩ = some (.pointer (some ⟨u, 0, none⟩)) from q34) (by have := HM.out.lm.ne; simpa using this), hg.cell (show w.drew.cell? ⟨u, 0, none⟩ = some (.pointer (some ⟨tl, 0, none⟩)) from u0) (by simpa using hup), Nat.lt_of_lt_of_le hqw hg.size, Nat.lt_of_lt_of_le huw hg.size⟩; obtain ⟨K1, K2, K3, K4⟩ := K))
        have h1 := HMd.out.went hR hg
        have H1 := hideM h1
        have HB1 := hideM (HBd.out.trans (HMd.out.bel hg))
        have hq1 := h1.lt
        obtain ⟨T1, hR1, _⟩ := h1.ex
        have q35 := hR1.c35
        have q36 := hR1.c36
        have f35 := h1.lm.free 35
        have f36 := h1.lm.free 36
        clear h1 hR hg HS1 HM q34 u0 K1 K2 hd HMd HBd
        clear hR1 q35 q36 f35 f36
        have ba : Below w2.heap.size w2 (w2.alloc (.cells #[.int .u8 (s' : Nat)] 5)) := (Below.refl _ _).alloc (Nat.le_refl _) _
        have h3 := H1.out.below ba
        have TE := hideM (tell_any q p hB g s B zs aft _ (some ⟨w2.heap.size, 0, none⟩) 1 [(s' : Int)] _ h3 (by have := HS.out; show 7 ≤ c.st; omega) (show c.out.length ≤ 100000 from hol) (row_one8 w2 s' 5) (fun e => by cases e) (by simp) (by unfold maxLen; omega) (by simp) (fun ad e => by
          cases e
          obtain ⟨T3, hR3, _⟩ := H1.out.ex
          refine ⟨by show w2.heap.size ≠ q; omega, ?_, fun ao n cap e1 e2 => ?_⟩
          · have hgl : g < w2.heap.size := by obtain ⟨rs, p, c, h1, _⟩ := hR3.rg; exact h1.lt
            show w2.heap.size ≠ g
            omega
          · rw [ba.cell (p := ⟨q, 30, none⟩) hq1] at e1
            have := (hR3.at30 ao n cap w2.heap.size e1 e2).1
            omega))
        rw [show ([(s' : Int)] : List Int).length = 1 from rfl] at TE
        have HB3 := hideM (HB1.out.trans (ba.mono (show B ≤ w2.heap.size from by have := HBS.out; omega)))
        clear ba h3 H1 HB1
        go_wp2_with fail
        refine Calls.mono TE.out ?_
        rintro e w4 hP
        obtain ⟨rfl, hX, hT⟩ := hP.1 (show c.out.length + 1 ≤ 100000 by omega)
        have HX := hideM hX
        have HT := hideM (HB3.out.trans hT)
        clear hP hX hT TE HB3
        go_wp2_with fail
        exact bodyPost_ret (v := .tuple #[.func (Fn.func 129) #[.pointer (some ⟨q, 0, none⟩)] #[], .nilIface]) (by simp [results, Tryz.results129, go_sem]) rfl (IPost.ok (by have := HS.out; show _ = inow q aft c.st; rw [this]; rfl) HX.out HT.out)
    · rw [if_neg h256]
      have hb256 : decide ((s' : Int) < 256) = false := decide_eq_false (by omega)
      by_cases he : s' = 256
      · rw [if_pos he]
        have hbe : ((s' : Int) == 256) = true := by simp; omega
        clear he
        go_enter Tryz.func129, Tryz.ntmps129
        go_upto_region 1 with fail
        go_region_held3 (fun w' => w'.cell? ⟨q, 34, none⟩ = some (.pointer (some ⟨u, 0, none⟩)) ∧ w'.cell? ⟨u, 0, none⟩ = some (.pointer (some ⟨tl, 0, none⟩)) ∧ q < w'.heap.size ∧ u < w'.heap.size)
          (first | (with_reducible assumption) | (go_keep; done) | (exact ⟨by assumption, by assumption, by assumption, by assumption⟩))
          ((go_at_call 156; refine Calls.mono HS1.out ?_; rintro e w2 ⟨rfl, hR, hg⟩; have K : w2.cell? ⟨q, 34, none⟩ = some (.pointer (some ⟨u, 0, none⟩)) ∧ w2.cell? ⟨u, 0, none⟩ = some (.pointer (some ⟨tl, 0, none⟩)) ∧ q < w2.heap.size ∧ u < w2.heap.size := ⟨hg.cell (show w.drew.cell? ⟨q, 34, none⟩ = some (.pointer (some ⟨u, 0, none⟩)) from q34) (by have := HM.out.lm.ne; simpa using this), hg.cell (show w.drew.cell? ⟨u, 0, none⟩ = some (.pointer (some ⟨tl, 0, none⟩)) from u0) (by simpa using hup), Nat.lt_of_lt_of_le hqw hg.size, Nat.lt_of_lt_of_le huw hg.size⟩; obtain ⟨K1, K2, K3, K4⟩ := K))
        have h1 := HMd.out.went hR hg
        have H1 := hideM h1
        have HB1 := hideM (HBd.out.trans (HMd.out.bel hg))
        have hq1 := h1.lt
        obtain ⟨T1, hR1, _⟩ := h1.ex
        have q35 := hR1.c35
        have q36 := hR1.c36
        have f35 := h1.lm.free 35
        have f36 := h1.lm.free 36
        clear h1 hR hg HS1 HM q34 u0 K1 K2 hd HMd HBd
        clear hR1 q35 q36 f35 f36
        go_wp2_with fail
        exact bodyPost_ret (v := .tuple #[.func (Fn.func 158) #[.pointer (some ⟨q, 0, none⟩)] #[], .nilIface]) (by simp [results, Tryz.results129, go_sem]) rfl (IPost.ok rfl (H1.out.at (by have := HS.out; show 7 ≤ c.st; omega) 8 (by omega) (fun h _ => by omega)) HB1.out)
      · rw [if_neg he]
        have hbe : ((s' : Int) == 256) = false := by simp; omega
        by_cases h285 : 285 < s'
        · rw [if_pos h285]
          have hb285 : decide ((s' : Int) > 285) = true := decide_eq_true (by omega)
          clear he
          go_enter Tryz.func129, Tryz.ntmps129
          go_upto_region 1 with fail
          go_region_held3 (fun w' => w'.cell? ⟨q, 34, none⟩ = some (.pointer (some ⟨u, 0, none⟩)) ∧ w'.cell? ⟨u, 0, none⟩ = some (.pointer (some ⟨tl, 0, none⟩)) ∧ q < w'.heap.size ∧ u < w'.heap.size)
            (first | (with_reducible assumption) | (go_keep; done) | (exact ⟨by assumption, by assumption, by assumption, by assumption⟩))
            ((go_at_call 156; refine Calls.mono HS1.out ?_; rintro e w2 ⟨rfl, hR, hg⟩; have K : w2.cell? ⟨q, 34, none⟩ = some (.pointer (some ⟨u, 0, none⟩)) ∧ w2.cell? ⟨u, 0, none⟩ = some (.pointer (some ⟨tl, 0, none⟩)) ∧ q < w2.heap.size ∧ u < w2.heap.size := ⟨hg.cell (show w.drew.cell? ⟨q, 34, none⟩ = some (.pointer (some ⟨u, 0, none⟩)) from q34) (by have := HM.out.lm.ne; simpa using this), hg.cell (show w.drew.cell? ⟨u, 0, none⟩ = some (.pointer (some ⟨tl, 0, none⟩)) from u0) (by simpa using hup), Nat.lt_of_lt_of_le hqw hg.size, Nat.lt_of_lt_of_le huw hg.size⟩; obtain ⟨K1, K2, K3, K4⟩ := K))
          have h1 := HMd.out.went hR hg
          have H1 := hideM h1
          have HB1 := hideM (HBd.out.trans (HMd.out.bel hg))
          have hq1 := h1.lt
          obtain ⟨T1, hR1, _⟩ := h1.ex
          have q35 := hR1.c35
          have q36 := hR1.c36
          have f35 := h1.lm.free 35
          have f36 := h1.lm.free 36
          clear h1 hR hg HS1 HM q34 u0 K1 K2 hd HMd HBd
          clear hR1 q35 q36 f35 f36
          go_wp2_with fail
          exact bodyPost_ret (v := .tuple #[.nilFunc, flt 3]) (by simp [results, Tryz.results129, go_sem, flt]) rfl (IPost.no H1.out HB1.out)
        · rw [if_neg h285]
          have hb285 : decide ((s' : Int) > 285) = false := decide_eq_false (by omega)
          obtain ⟨ba, ex, hbx⟩ : ∃ ba ex, lenR s' = (ba, ex) := ⟨_, _, rfl⟩
          rw [hbx]
          dsimp only
          have HBE := hideM hbx
          clear hbx
          go_enter Tryz.func129, Tryz.ntmps129
          go_upto_region 1 with fail
          go_region_held3 (fun w' => w'.cell? ⟨q, 34, none⟩ = some (.pointer (some ⟨u, 0, none⟩)) ∧ w'.cell? ⟨u, 0, none⟩ = some (.pointer (some ⟨tl, 0, none⟩)) ∧ q < w'.heap.size ∧ u < w'.heap.size)
            (first | (with_reducible assumption) | (go_keep; done) | (exact ⟨by assumption, by assumption, by assumption, by assumption⟩))
            ((go_at_call 156; refine Calls.mono HS1.out ?_; rintro e w2 ⟨rfl, hR, hg⟩; have K : w2.cell? ⟨q, 34, none⟩ = some (.pointer (some ⟨u, 0, none⟩)) ∧ w2.cell? ⟨u, 0, none⟩ = some (.pointer (some ⟨tl, 0, none⟩)) ∧ q < w2.heap.size ∧ u < w2.heap.size := ⟨hg.cell (show w.drew.cell? ⟨q, 34, none⟩ = some (.pointer (some ⟨u, 0, none⟩)) from q34) (by have := HM.out.lm.ne; simpa using this), hg.cell (show w.drew.cell? ⟨u, 0, none⟩ = some (.pointer (some ⟨tl, 0, none⟩)) from u0) (by simpa using hup), Nat.lt_of_lt_of_le hqw hg.size, Nat.lt_of_lt_of_le huw hg.size⟩; obtain ⟨K1, K2, K3, K4⟩ := K))
          have h1 := HMd.out.went hR hg
          have H1 := hideM h1
          have HB1 := hideM (HBd.out.trans (HMd.out.bel hg))
          have hq1 := h1.lt
          obtain ⟨T1, hR1, _⟩ := h1.ex
          have q35 := hR1.c35
          have q36 := hR1.c36
          have f35 := h1.lm.free 35
          have f36 := h1.lm.free 36
          clear h1 hR hg HS1 HM q34 u0 K1 K2 hd HMd HBd
          have LR := hideM (lengthRange_any s' (by omega) (by omega) w2)
          rw [HBE.out] at LR
          dsimp only at LR
          have HX := hideM ((H1.out.setq 35 (by omega) (.int .i64 (ba : Nat)) c.last c.stored ba c.extra c.len (by simp) (by simp) (by simp) (by simp) (by simp)).setq 36 (by omega) (.int .i64 (ex : Nat)) c.last c.stored ba ex c.len (by simp) (by simp) (by simp) (by simp) (by simp))
          have HT := hideM ((HB1.out.trans (H1.out.belq 35 (.int .i64 (ba : Nat)))).trans ((H1.out.setq 35 (by omega) (.int .i64 (ba : Nat)) c.last c.stored ba c.extra c.len (by simp) (by simp) (by simp) (by simp) (by simp)).belq 36 (.int .i64 (ex : Nat))))
          clear H1 HB1 hR1 HBE
          dsimp only at q35 q36
          go_wp2_with fail
          refine Calls.mono LR.out ?_
          rintro e w3 ⟨rfl, rfl⟩
          go_wp2_with fail
          exact bodyPost_ret (v := .tuple #[.func (Fn.func 160) #[.pointer (some ⟨q, 0, none⟩)] #[], .nilIface]) (by simp [results, Tryz.results129, go_sem]) rfl (IPost.ok rfl (HX.out.at (by have := HS.out; show 7 ≤ c.st; omega) 13 (by omega) (fun _ _ => ⟨by have := HS.out; show 12 ≤ c.st; omega, by have := HS.out; show c.st ≤ 15; omega⟩)) HT.out)
  · rw [if_neg hk1]
    have hcl : ∃ dd : Int, (dd = 2 ∨ dd = 3) ∧ (if k = 2 then (.inr (2, c) : IC ⊕ (Int × IC)) else .inr (3, c)) = .inr (dd, c) ∧ Hid (Calls Tryz.prog 156 #[.pointer (some ⟨q, 0, none⟩), .pointer (some ⟨tl, 0, none⟩)] w.drew fun e w' => e = .returned (.tuple #[.int .i64 0, flt dd]) ∧ Below w.drew.heap.size w.drew w') := by
      rcases hkd with rfl | rfl | rfl
      · exact ⟨3, .inr rfl, rfl, Calls.mono HSY.out (fun e w' h => h.2.2 rfl)⟩
      · exact absurd rfl hk1
      · exact ⟨2, .inl rfl, rfl, Calls.mono HSY.out (fun e w' h => h.2.1 rfl)⟩
    obtain ⟨dd, _, hdd, HS1⟩ := hcl
    rw [hdd]
    clear HSY hkd hdd hsy hk1
    unfold flt at HS1
    go_enter Tryz.func129, Tryz.ntmps129
    go_upto_region 1 with fail
    go_region_held3 (fun w' => w'.cell? ⟨q, 34, none⟩ = some (.pointer (some ⟨u, 0, none⟩)) ∧ w'.cell? ⟨u, 0, none⟩ = some (.pointer (some ⟨tl, 0, none⟩)) ∧ q < w'.heap.size ∧ u < w'.heap.size)
      (first | (with_reducible assumption) | (go_keep; done) | (exact ⟨by assumption, by assumption, by assumption, by assumption⟩))
      ((go_at_call 156; refine Calls.mono HS1.out ?_; rintro e w2 ⟨rfl, hb⟩; have K : w2.cell? ⟨q, 34, none⟩ = some (.pointer (some ⟨u, 0, none⟩)) ∧ w2.cell? ⟨u, 0, none⟩ = some (.pointer (some ⟨tl, 0, none⟩)) ∧ q < w2.heap.size ∧ u < w2.heap.size := ⟨(hb.cell (p := ⟨q, 34, none⟩) hqw).trans q34, (hb.cell (p := ⟨u, 0, none⟩) huw).trans u0, Nat.lt_of_lt_of_le hqw hb.size, Nat.lt_of_lt_of_le huw hb.size⟩; obtain ⟨K1, K2, K3, K4⟩ := K))
    have HM2 := hideM (HMd.out.below hb)
    have HT2 := hideM (HBd.out.trans (hb.mono (show B ≤ w.drew.heap.size from by have := HBS.out; show B ≤ w.heap.size; omega)))
    clear hb HS1 HM q34 u0 K1 K2 hd HMd HBd
    go_wp2_with fail
    exact bodyPost_ret (v := .tuple #[.nilFunc, flt dd]) (by simp [results, Tryz.results129, go_sem, flt]) rfl (IPost.no HM2.out HT2.out)
end Go.Proofs.YtbddkkfakkedaaaGreatDoor
namespace Go.Proofs.YtbddkkfakkedaaaGreatDoor
open Go.RowKit
variable {KH : Nat → Option Obj}
attribute [local go_sem ↓] Go.wp_at_zero Go.wp_at_succ
set_option linter.unusedVariables false

set_option maxRecDepth 100000 in
theorem data_yes (q p hB : Nat) (zs : List Int) (i n : Nat) (w : World) (hm : w.cell? ⟨q, 0, none⟩ = some (.pointer (some ⟨p, 0, none⟩))) (h : Rd w p hB zs i) (h8 : i % 8 = 0) (hzl : zs.length ≤ 65536) (hn1 : 1 ≤ n) (hn : i + 8 * n ≤ 8 * zs.length) :
    Calls Tryz.prog 166 #[.pointer (some ⟨q, 0, none⟩), .int .i64 (n : Nat)] w fun e w' => ∃ bo bc, e = .returned (.tuple #[.slice bo n bc, .nilIface]) ∧ Mine w.heap.size w' bo bc ((zs.drop (i / 8)).take n) ∧ Rd w' p hB zs (i + 8 * n) ∧ w.grownBy w' (some p) := by
  have hqw := World.block_lt_of_cell? w _ hm
  have hv := Rd.vld h.le hzl
  obtain ⟨hl, hne, ao, cap, hs, hr, hc, hb⟩ := h
  rw [h8] at hs hv
  have hlen : (zs.drop (i / 8)).length = zs.length - i / 8 := List.length_drop
  have BY := hideM (bytes_yes p ao cap (zs.drop (i / 8)) (i : Int) n w hs hr (fun e => by obtain ⟨b, off, e2, _⟩ := hr 0 (by omega); rw [e] at e2; cases e2) hc hv (by omega) (decide_eq_true (by omega)))
  have HX : Hid (∀ w', Src w' p (.slice (cutAt ao cap n) ((zs.drop (i / 8)).length - n) (cap - n)) 0 ((i : Int) + 8 * (n : Int)) → w.grownBy w' (some p) → Rd w' p hB zs (i + 8 * n)) := by
    intro w' h1 h2
    refine Rd.moved (n := 8 * n) hn ?_ hr hc hne hb h2
    rw [h8, show ((((0 : Nat) : Int) + ((8 * n : Nat) : Int)) / 8).toNat = n from by omega, show (((0 : Nat) : Int) + ((8 * n : Nat) : Int)) % 8 = 0 from by omega, show (i : Int) + ((8 * n : Nat) : Int) = (i : Int) + 8 * (n : Int) from by omega]
    exact h1
  generalize (zs.drop (i / 8)).length = Z at *
  clear hs hr hc hv hb hne
  go_enter Tryz.func166, Tryz.ntmps166
  go_wp2_with fail
  refine Calls.mono BY.out ?_
  rintro e w1 ⟨bo, bc, rfl, h1, h2, h3⟩
  have H1 := hideM h1
  have H2 := hideM (HX.out w1 h2 h3)
  have H3 := hideM h3
  clear h1 h2 h3 BY HX
  go_wp2_with fail
  exact bodyPost_ret (v := .tuple #[.slice bo n bc, .nilIface]) (by simp [results, Tryz.results166, go_sem]) rfl ⟨bo, bc, rfl, H1.out, H2.out, H3.out⟩
set_option maxRecDepth 100000 in
theorem data_no (q p hB : Nat) (zs : List Int) (i n : Nat) (w : World) (hm : w.cell? ⟨q, 0, none⟩ = some (.pointer (some ⟨p, 0, none⟩))) (h : Rd w p hB zs i) (h8 : i % 8 = 0) (hzl : zs.length ≤ 65536) (hn : ¬ i + 8 * n ≤ 8 * zs.length) :
    Calls Tryz.prog 166 #[.pointer (some ⟨q, 0, none⟩), .int .i64 (n : Nat)] w fun e w' => e = .returned (.tuple #[.slice none 0 0, flt 2]) ∧ Below w.heap.size w w' := by
  have hqw := World.block_lt_of_cell? w _ hm
  have hv := Rd.vld h.le hzl
  obtain ⟨hl, hne, ao, cap, hs, hr, hc, hb⟩ := h
  rw [h8] at hs hv
  have hlen : (zs.drop (i / 8)).length = zs.length - i / 8 := List.length_drop
  have BY := hideM (bytes_no p ao (zs.drop (i / 8)).length cap 0 (i : Int) (n : Int) w hs hv (.inr (.inr (.inl ⟨rfl, by omega, by omega⟩))))
  clear hs hr hc hv hb hne
  go_enter Tryz.func166, Tryz.ntmps166
  go_wp2_with fail
  refine Calls.mono BY.out ?_
  rintro e w1 ⟨rfl, hb1⟩
  have H1 := hideM hb1
  clear hb1 BY
  go_wp2_with fail
  exact bodyPost_ret (v := .tuple #[.slice none 0 0, flt 2]) (by simp [results, Tryz.results166, go_sem, flt]) rfl ⟨rfl, H1.out⟩
/-- storedBytes. -/
def stN (zs : List Int) (c : IC) : Nat := max 1 (min (min c.stored (zs.length - c.lc.i / 8)) (100000 - c.out.length))
def storedBytesS (s : Nat) (zs : List Int) (c : IC) : IC ⊕ (Int × IC) :=
  if c.stored = 0 then .inl { c with st := 8 }
  else if c.lc.i + 8 * stN zs c ≤ 8 * zs.length then
    if 100000 < c.out.length + stN zs c then .inr (6, { c with stored := c.stored - stN zs c, lc := { c.lc with i := c.lc.i + 8 * stN zs c } })
    else .inl (tellC s { c with stored := c.stored - stN zs c, lc := { c.lc with i := c.lc.i + 8 * stN zs c } } ((zs.drop (c.lc.i / 8)).take (stN zs c)))
  else .inr (2, c)
set_option maxRecDepth 100000 in
set_option maxHeartbeats 6400000 in
theorem storedBytes_any (q p hB g s B : Nat) (zs : List Int) (aft : Value) (c : IC) (w : World) (hM : IMem KH q p hB g s B zs aft w c) (hs : c.st = 10) (h8 : c.lc.i % 8 = 0) (hst : c.stored ≤ 65535) (hol : c.out.length ≤ 100000) (hz : Octets zs) (hzl : zs.length ≤ 65536) :
    Calls Tryz.prog 152 #[.pointer (some ⟨q, 0, none⟩)] w fun e w' => IPost KH q p hB g s B zs aft (storedBytesS s zs c) e w w' := by
  have hqw := hM.lt
  have HM := hideM hM
  obtain ⟨T, hRr, _⟩ := hM.ex
  have q32 := hRr.c32
  have HA30 := hideM (fun ao n cap k e1 e2 => (hRr.at30 ao n cap k e1 e2).1)
  have HGD : Hid (g < w.heap.size) := by obtain ⟨rs, p, c, h1, _⟩ := hRr.rg; exact h1.lt
  by_cases h0 : c.stored = 0
  · rw [h0] at q32
    have HF : Hid (IPost KH q p hB g s B zs aft (storedBytesS s zs c) (.returned (.tuple #[.func (Fn.func 158) #[.pointer (some ⟨q, 0, none⟩)] #[], .nilIface])) w w) := by
      show IPost _ _ _ _ _ _ _ _ _ _ _ _ _
      unfold storedBytesS
      rw [if_pos h0]
      exact IPost.ok rfl (hM.at (by omega) 8 (by omega) (fun h _ => by omega)) (Below.refl _ _)
    clear hM hRr h0 hs HM
    go_enter Tryz.func152, Tryz.ntmps152
    go_wp2_with fail
    exact bodyPost_ret (v := .tuple #[.func (Fn.func 158) #[.pointer (some ⟨q, 0, none⟩)] #[], .nilIface]) (by simp [results, Tryz.results152, go_sem]) rfl HF.out
  · have h0b : ((c.stored : Int) == 0) = false := by simp; omega
    have hd : Below w.heap.size w w.drew := (Below.refl _ _).drew
    have hMd := hM.below hd
    have HMd := hideM hMd
    have HBd := hideM ((hd.mono (show B ≤ w.heap.size from by have := hM.bs; omega)))
    have HS := hideM hs
    have q0 := hM.lm.c0
    obtain ⟨oo, oc, q30, hO30, _⟩ := hRr.o30
    obtain ⟨pa, pc, p0, p1, p2, _⟩ := hM.lm.rd.seen
    have hpw : p < w.heap.size := hM.lm.rd.lt
    have hle := hM.lm.rd.le
    obtain ⟨m, hm⟩ : ∃ m, stN zs c = m := ⟨_, rfl⟩
    obtain ⟨Lh, hLh⟩ : ∃ x, zs.length - c.lc.i / 8 = x := ⟨_, rfl⟩
    rw [hLh] at p0
    obtain ⟨N, hN⟩ : ∃ N, c.out.length = N := ⟨_, rfl⟩
    rw [hN] at q30
    have hm' : m = max 1 (min (min c.stored Lh) (100000 - N)) := by rw [← hm, ← hLh, ← hN]; rfl
    obtain ⟨mm, hmin⟩ : ∃ mm : Int, min (min (c.stored : Int) (Lh : Int)) (100000 - (N : Int)) = mm := ⟨_, rfl⟩
    have hmax : max 1 mm = (m : Int) := by omega
    have hLD : m ≤ Lh → ((zs.drop (c.lc.i / 8)).take m).length = m := fun h => by rw [List.length_take, List.length_drop]; omega
    have hm1 : 1 ≤ m := by omega
    have hmb : m ≤ 100000 := by omega
    have HMM := hideM hm
    have HM' := hideM hm'
    have HH := hideM (And.intro hLh hN)
    clear hs hRr hO30 p2 hmin hmax hm' hm hLh hN
    have HD : Hid ((c.lc.i + 8 * m ≤ 8 * zs.length) ∨ ¬ (c.lc.i + 8 * m ≤ 8 * zs.length)) := Classical.em _
    have hNb : N ≤ 100000 := by have := HH.out; omega
    have hLb : Lh ≤ 65536 := by have := HH.out; omega
    have hms : m ≤ c.stored := by have := HM'.out; omega
    go_enter Tryz.func152, Tryz.ntmps152
    go_upto_region 3 with fail
    go_cut [4] from 14 to 36 (fun v wx => v = .int .i64 (m : Nat) ∧ wx = w.drew)
    case first =>
      go_region
      all_goals go_wp2_with fail
      all_goals go_meet
      all_goals exact ⟨congrArg (Value.int .i64) (by have := HM'.out; omega), rfl⟩
    case rest =>
    obtain ⟨rfl, hwx⟩ := hcut
    rw [hwx]
    clear hwx q0 p0 p1 q30
    have dq : q < w.drew.heap.size := hqw
    by_cases hn : c.lc.i + 8 * m ≤ 8 * zs.length
    · have hmL : m ≤ Lh := by have := HH.out; omega
      have HLD := hideM (hLD hmL)
      have DA := hideM (data_yes q p hB zs c.lc.i m w.drew hMd.lm.c0 hMd.lm.rd h8 hzl hm1 hn)
      clear hM hMd hLD
      by_cases h6 : 100000 < c.out.length + m
      · go_wp2_with fail
        refine Calls.mono DA.out ?_
        rintro e w1 ⟨bo, bc, rfl, hMi, hR, hg⟩
        have h1 := HMd.out.went hR hg
        have h2 := h1.setq 32 (by omega) (.int .i64 ((c.stored : Int) - (m : Int))) c.last (c.stored - m) c.base c.extra c.len (by simp) (by simp; omega) (by simp) (by simp) (by simp)
        obtain ⟨T1, hR1, _⟩ := h1.ex
        have q32 := hR1.c32
        have f32 := h1.lm.free 32
        have hq1 := h1.lt
        have hgl : g < w1.heap.size := by obtain ⟨rs, p, c, h1, _⟩ := hR1.rg; exact h1.lt
        have hg2 := grownBy_setCell w1 ⟨q, 32, none⟩ (.int .i64 ((c.stored : Int) - (m : Int)))
        have hwd : w.drew.heap.size ≤ w1.heap.size := hg.size
        have hsep : ∀ ad, bo = some ad → w.drew.heap.size ≤ ad.block ∧ ad.block < w1.heap.size := fun ad e => ⟨(hMi.lies ad e).1, (hMi.lies ad e).2.1⟩
        have hMi2 := hMi.grown hg2 (fun k e e2 => by
          cases bo with
          | none => cases e2
          | some ad =>
            have h5 := (hsep ad rfl).1
            have h6 : q < w.drew.heap.size := hqw
            simp [blk] at e2
            simp at e
            omega)
        have TE := hideM (tell_any q p hB g s B zs aft _ bo bc ((zs.drop (c.lc.i / 8)).take m) _ h2 (by have := HS.out; show 7 ≤ c.st; omega) (show c.out.length ≤ 100000 from hol) hMi2.row (fun e => ⟨by have := hMi2.bare e; have := hMi2.fits; omega, hMi2.bare e⟩) hMi2.fits hMi2.most (by rw [HLD.out]; omega) (fun ad e => by
          have h5 := hsep ad e
          have h6 : q < w.drew.heap.size := hqw
          have h7 : g < w.drew.heap.size := HGD.out
          refine ⟨by omega, by omega, fun ao n cap e1 e2 => ?_⟩
          have h8 := HA30.out ao n cap _ (by
            rw [World.cell?_setCell_other _ _ _ _ (by simp), cellFar hg hqw HM.out.lm.ne 30] at e1
            exact e1) e2
          have h9 : ad.block < w.drew.heap.size := h8
          omega))
        rw [HLD.out] at TE
        have HB3 := hideM ((HBd.out.trans (HMd.out.bel hg)).trans (h1.belq 32 (.int .i64 ((c.stored : Int) - (m : Int)))))
        dsimp only at q32
        clear h1 h2 hR1 hR hg hMi hMi2 hsep hg2 hwd hgl DA HBd HMd HM
        go_wp2_with fail
        refine Calls.mono TE.out ?_
        rintro e w4 hP
        unfold TellPost at hP
        rw [HLD.out] at hP
        obtain ⟨rfl, hX, hT⟩ := hP.2 (show 100000 < c.out.length + m from h6)
        have HF : Hid (IPost KH q p hB g s B zs aft (storedBytesS s zs c) (.returned (.tuple #[.func (Fn.func 152) #[.pointer (some ⟨q, 0, none⟩)] #[], flt 6])) w w4) := by
          show IPost _ _ _ _ _ _ _ _ _ _ _ _ _
          unfold storedBytesS
          rw [if_neg h0, HMM.out, if_pos hn, if_pos h6]
          exact IPost.no hX (HB3.out.trans hT)
        clear hP hX hT TE HB3
        go_wp2_with fail
        exact bodyPost_ret (v := .tuple #[.func (Fn.func 152) #[.pointer (some ⟨q, 0, none⟩)] #[], flt 6]) (by simp [results, Tryz.results152, go_sem, flt]) rfl HF.out
      · go_wp2_with fail
        refine Calls.mono DA.out ?_
        rintro e w1 ⟨bo, bc, rfl, hMi, hR, hg⟩
        have h1 := HMd.out.went hR hg
        have h2 := h1.setq 32 (by omega) (.int .i64 ((c.stored : Int) - (m : Int))) c.last (c.stored - m) c.base c.extra c.len (by simp) (by simp; omega) (by simp) (by simp) (by simp)
        obtain ⟨T1, hR1, _⟩ := h1.ex
        have q32 := hR1.c32
        have f32 := h1.lm.free 32
        have hq1 := h1.lt
        have hgl : g < w1.heap.size := by obtain ⟨rs, p, c, h1, _⟩ := hR1.rg; exact h1.lt
        have hg2 := grownBy_setCell w1 ⟨q, 32, none⟩ (.int .i64 ((c.stored : Int) - (m : Int)))
        have hwd : w.drew.heap.size ≤ w1.heap.size := hg.size
        have hsep : ∀ ad, bo = some ad → w.drew.heap.size ≤ ad.block ∧ ad.block < w1.heap.size := fun ad e => ⟨(hMi.lies ad e).1, (hMi.lies ad e).2.1⟩
        have hMi2 := hMi.grown hg2 (fun k e e2 => by
          cases bo with
          | none => cases e2
          | some ad =>
            have h5 := (hsep ad rfl).1
            have h6 : q < w.drew.heap.size := hqw
            simp [blk] at e2
            simp at e
            omega)
        have TE := hideM (tell_any q p hB g s B zs aft _ bo bc ((zs.drop (c.lc.i / 8)).take m) _ h2 (by have := HS.out; show 7 ≤ c.st; omega) (show c.out.length ≤ 100000 from hol) hMi2.row (fun e => ⟨by have := hMi2.bare e; have := hMi2.fits; omega, hMi2.bare e⟩) hMi2.fits hMi2.most (by rw [HLD.out]; omega) (fun ad e => by
          have h5 := hsep ad e
          have h6 : q < w.drew.heap.size := hqw
          have h7 : g < w.drew.heap.size := HGD.out
          refine ⟨by omega, by omega, fun ao n cap e1 e2 => ?_⟩
          have h8 := HA30.out ao n cap _ (by
            rw [World.cell?_setCell_other _ _ _ _ (by simp), cellFar hg hqw HM.out.lm.ne 30] at e1
            exact e1) e2
          have h9 : ad.block < w.drew.heap.size := h8
          omega))
        rw [HLD.out] at TE
        have HB3 := hideM ((HBd.out.trans (HMd.out.bel hg)).trans (h1.belq 32 (.int .i64 ((c.stored : Int) - (m : Int)))))
        dsimp only at q32
        clear h1 h2 hR1 hR hg hMi hMi2 hsep hg2 hwd hgl DA HBd HMd HM
        go_wp2_with fail
        refine Calls.mono TE.out ?_
        rintro e w4 hP
        unfold TellPost at hP
        rw [HLD.out] at hP
        obtain ⟨rfl, hX, hT⟩ := hP.1 (show c.out.length + m ≤ 100000 by omega)
        have HF : Hid (IPost KH q p hB g s B zs aft (storedBytesS s zs c) (.returned (.tuple #[.func (Fn.func 152) #[.pointer (some ⟨q, 0, none⟩)] #[], .nilIface])) w w4) := by
          show IPost _ _ _ _ _ _ _ _ _ _ _ _ _
          unfold storedBytesS
          rw [if_neg h0, HMM.out, if_pos hn, if_neg h6]
          exact IPost.ok (by have := HS.out; show _ = inow q aft c.st; rw [this]; rfl) hX (HB3.out.trans hT)
        clear hP hX hT TE HB3
        go_wp2_with fail
        exact bodyPost_ret (v := .tuple #[.func (Fn.func 152) #[.pointer (some ⟨q, 0, none⟩)] #[], .nilIface]) (by simp [results, Tryz.results152, go_sem]) rfl HF.out
    · have DA := hideM (data_no q p hB zs c.lc.i m w.drew hMd.lm.c0 hMd.lm.rd h8 hzl hn)
      have HBS := hideM hM.bs
      clear hM hMd hLD
      unfold flt at DA
      go_wp2_with fail
      refine Calls.mono DA.out ?_
      rintro e w1 ⟨rfl, hb⟩
      have HF : Hid (IPost KH q p hB g s B zs aft (storedBytesS s zs c) (.returned (.tuple #[.nilFunc, flt 2])) w w1) := by
        show IPost _ _ _ _ _ _ _ _ _ _ _ _ _
        unfold storedBytesS
        rw [if_neg h0, HMM.out, if_neg hn]
        exact IPost.no (HMd.out.below hb) (HBd.out.trans (hb.mono (show B ≤ w.drew.heap.size from by have := HBS.out; show B ≤ w.heap.size; omega)))
      clear hb DA HM hd HMd HBd q32
      go_wp2_with fail
      exact bodyPost_ret (v := .tuple #[.nilFunc, flt 2]) (by simp [results, Tryz.results152, go_sem, flt]) rfl HF.out
end Go.Proofs.YtbddkkfakkedaaaGreatDoor
