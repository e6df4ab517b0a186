import Derived.Test.YtbddkkfakkedaaaGreatDoorMBM
namespace Go.Proofs.YtbddkkfakkedaaaGreatDoor
open Go.RowKit
variable {KH : Nat → Option Obj}
attribute [local go_sem ↓] Go.wp_at_zero Go.wp_at_succ
set_option linter.unusedVariables false

/-- The shortest copy of a symbol, and how many bits more. -/
def lenR (n : Nat) : Nat × Nat := if n < 265 then (n - 254, 0) else if n = 285 then (258, 0) else ((4 + (n - 257) % 4) * 2 ^ ((n - 257) / 4 - 1) + 3, (n - 257) / 4 - 1)
def distR (n : Nat) : Nat × Nat := if n < 4 then (n + 1, 0) else ((2 + n % 2) * 2 ^ (n / 2 - 1) + 1, n / 2 - 1)
theorem lenR_le (n : Nat) (h0 : 257 ≤ n) (h1 : n ≤ 285) : 3 ≤ (lenR n).1 ∧ (lenR n).1 + 2 ^ (lenR n).2 ≤ 259 ∧ (lenR n).2 ≤ 5 := by
  have h3 : n = 257 ∨ n = 258 ∨ n = 259 ∨ n = 260 ∨ n = 261 ∨ n = 262 ∨ n = 263 ∨ n = 264 ∨ n = 265 ∨ n = 266 ∨ n = 267 ∨ n = 268 ∨ n = 269 ∨ n = 270 ∨ n = 271 ∨ n = 272 ∨ n = 273 ∨ n = 274 ∨ n = 275 ∨ n = 276 ∨ n = 277 ∨ n = 278 ∨ n = 279 ∨ n = 280 ∨ n = 281 ∨ n = 282 ∨ n = 283 ∨ n = 284 ∨ n = 285 := by omega
  rcases h3 with rfl | rfl | rfl | rfl | rfl | rfl | rfl | rfl | rfl | rfl | rfl | rfl | rfl | rfl | rfl | rfl | rfl | rfl | rfl | rfl | rfl | rfl | rfl | rfl | rfl | rfl | rfl | rfl | rfl <;> decide
theorem distR_le (n : Nat) (h1 : n ≤ 29) : 1 ≤ (distR n).1 ∧ (distR n).1 + 2 ^ (distR n).2 ≤ 32769 ∧ (distR n).2 ≤ 13 := by
  have h3 : n = 0 ∨ n = 1 ∨ n = 2 ∨ n = 3 ∨ n = 4 ∨ n = 5 ∨ n = 6 ∨ n = 7 ∨ n = 8 ∨ n = 9 ∨ n = 10 ∨ n = 11 ∨ n = 12 ∨ n = 13 ∨ n = 14 ∨ n = 15 ∨ n = 16 ∨ n = 17 ∨ n = 18 ∨ n = 19 ∨ n = 20 ∨ n = 21 ∨ n = 22 ∨ n = 23 ∨ n = 24 ∨ n = 25 ∨ n = 26 ∨ n = 27 ∨ n = 28 ∨ n = 29 := by omega
  rcases h3 with rfl | rfl | rfl | rfl | rfl | rfl | rfl | rfl | rfl | rfl | rfl | rfl | rfl | rfl | rfl | rfl | rfl | rfl | rfl | rfl | rfl | rfl | rfl | rfl | rfl | rfl | rfl | rfl | rfl | rfl <;> decide
set_option maxRecDepth 100000 in
theorem lengthRange_any (n : Nat) (h0 : 257 ≤ n) (h1 : n ≤ 285) (w : World) :
    Calls Tryz.prog 159 #[.int .i64 (n : Nat)] w fun e w' => e = .returned (.tuple #[.int .i64 ((lenR n).1 : Nat), .int .i64 ((lenR n).2 : Nat)]) ∧ w' = w := by
  have h3 : n = 257 ∨ n = 258 ∨ n = 259 ∨ n = 260 ∨ n = 261 ∨ n = 262 ∨ n = 263 ∨ n = 264 ∨ n = 265 ∨ n = 266 ∨ n = 267 ∨ n = 268 ∨ n = 269 ∨ n = 270 ∨ n = 271 ∨ n = 272 ∨ n = 273 ∨ n = 274 ∨ n = 275 ∨ n = 276 ∨ n = 277 ∨ n = 278 ∨ n = 279 ∨ n = 280 ∨ n = 281 ∨ n = 282 ∨ n = 283 ∨ n = 284 ∨ n = 285 := by omega
  clear h0 h1
  rcases h3 with rfl | rfl | rfl | rfl | rfl | rfl | rfl | rfl | rfl | rfl | rfl | rfl | rfl | rfl | rfl | rfl | rfl | rfl | rfl | rfl | rfl | rfl | rfl | rfl | rfl | rfl | rfl | rfl | rfl <;> (go_enter Tryz.func159, Tryz.ntmps159; go_wp2_with fail; go_ret2; exact ⟨rfl, rfl⟩)
set_option maxRecDepth 100000 in
theorem distRange_any (n : Nat) (h1 : n ≤ 29) (w : World) :
    Calls Tryz.prog 178 #[.int .i64 (n : Nat)] w fun e w' => e = .returned (.tuple #[.int .i64 ((distR n).1 : Nat), .int .i64 ((distR n).2 : Nat)]) ∧ w' = w := by
  have h3 : n = 0 ∨ n = 1 ∨ n = 2 ∨ n = 3 ∨ n = 4 ∨ n = 5 ∨ n = 6 ∨ n = 7 ∨ n = 8 ∨ n = 9 ∨ n = 10 ∨ n = 11 ∨ n = 12 ∨ n = 13 ∨ n = 14 ∨ n = 15 ∨ n = 16 ∨ n = 17 ∨ n = 18 ∨ n = 19 ∨ n = 20 ∨ n = 21 ∨ n = 22 ∨ n = 23 ∨ n = 24 ∨ n = 25 ∨ n = 26 ∨ n = 27 ∨ n = 28 ∨ n = 29 := by omega
  clear h1
  rcases h3 with rfl | rfl | rfl | rfl | rfl | rfl | rfl | rfl | rfl | rfl | rfl | rfl | rfl | rfl | rfl | rfl | rfl | rfl | rfl | rfl | rfl | rfl | rfl | rfl | rfl | rfl | rfl | rfl | rfl | rfl <;> (go_enter Tryz.func178, Tryz.ntmps178; go_wp2_with fail; go_ret2; exact ⟨rfl, rfl⟩)
/-- copyDistance. -/
def copyDistanceS (s : Nat) (zs : List Int) (c : IC) : IC ⊕ (Int × IC) :=
  if c.lc.i + c.extra ≤ 8 * zs.length then
    if c.t.length < c.base + field (bnum zs) c.lc.i c.extra then .inr (3, { c with lc := { c.lc with i := c.lc.i + c.extra } })
    else if 100000 < c.out.length + c.len then .inr (6, { c with lc := { c.lc with i := c.lc.i + c.extra } })
    else .inl { copyC s { c with lc := { c.lc with i := c.lc.i + c.extra } } (c.base + field (bnum zs) c.lc.i c.extra) with st := 12 }
  else .inr (2, c)
set_option maxRecDepth 100000 in
set_option maxHeartbeats 6400000 in
theorem copyDistance_any (q p hB g s B : Nat) (zs : List Int) (aft : Value) (c : IC) (w : World) (hM : IMem KH q p hB g s B zs aft w c) (hs : c.st = 15) (hol : c.out.length ≤ 100000) (hex : c.extra ≤ 13) (hba0 : 1 ≤ c.base) (hba : c.base ≤ 32768) (hn0 : 1 ≤ c.len) (hn1 : c.len ≤ 258) (hz : Octets zs) (hzl : zs.length ≤ 65536) :
    Calls Tryz.prog 179 #[.pointer (some ⟨q, 0, none⟩)] w fun e w' => IPost KH q p hB g s B zs aft (copyDistanceS s zs c) e w w' := by
  have hqw := hM.lt
  have HM := hideM hM
  obtain ⟨T, hRr, _⟩ := hM.ex
  have q36 := hRr.c36
  unfold copyDistanceS
  have hd : Below w.heap.size w w.drew := (Below.refl _ _).drew
  have hMd := hM.below hd
  have HMd := hideM hMd
  have HBd := hideM ((hd.mono (show B ≤ w.heap.size from by have := hM.bs; omega)))
  by_cases hn : c.lc.i + c.extra ≤ 8 * zs.length
  · rw [if_pos hn]
    have HN := hideM (number_yes q p hB zs c.lc.i c.extra w.drew hMd.lm.c0 hMd.lm.rd hz hzl (by omega) hn)
    have hF : field (bnum zs) c.lc.i c.extra < 8192 := Nat.lt_of_lt_of_le (field_lt _ _ _) (show 2 ^ c.extra ≤ 2 ^ 13 from Nat.pow_le_pow_right (by decide) hex)
    generalize field (bnum zs) c.lc.i c.extra = F at *
    clear hM hn hRr hMd
    by_cases h3 : c.t.length < c.base + F
    · rw [if_pos h3]
      go_enter Tryz.func179, Tryz.ntmps179
      go_upto_region 1 with fail
      go_region_held3 (fun w' => w'.cell? ⟨q, 36, none⟩ = some (.int .i64 (c.extra : Nat)))
        (first | (with_reducible assumption) | (go_keep; done))
        ((go_at_call 85; refine Calls.mono HN.out ?_; rintro e w1 ⟨rfl, hR, hg⟩; have k36 := hg.cell (show w.drew.cell? ⟨q, 36, none⟩ = some (.int .i64 (c.extra : Nat)) from q36) (by have := HM.out.lm.ne; simpa using this)))
      have h1 := HMd.out.went hR hg
      have HB1 := hideM (HBd.out.trans (HMd.out.bel hg))
      have TC := hideM (tellCopy_any q p hB g s B zs aft { c with lc := { c.lc with i := c.lc.i + c.extra } } (c.base + F) w1 h1 (by show 7 ≤ c.st; omega) hol (by omega) (by omega) hn0 hn1)
      obtain ⟨T, hRr, _⟩ := h1.ex
      have q35 := hRr.c35
      have hq1 := h1.lt
      dsimp only at q35
      have hsum : ((c.base + F : Nat) : Int) = (c.base : Int) + (F : Int) := by omega
      rw [hsum] at TC
      clear h1 hRr hR hg HN HM q36 k36 hd HMd HBd hsum
      go_wp2_with fail
      refine Calls.mono TC.out ?_
      rintro e w2 hP
      obtain ⟨rfl, hX, hT⟩ := hP.1 h3
      have HX := hideM hX
      have HT := hideM (HB1.out.trans hT)
      clear hP hX hT TC HB1
      go_wp2_with fail
      exact bodyPost_ret (v := .tuple #[.func (Fn.func 129) #[.pointer (some ⟨q, 0, none⟩)] #[], flt 3]) (by simp [results, Tryz.results179, go_sem, flt]) rfl (IPost.no HX.out HT.out)
    · rw [if_neg h3]
      by_cases h6 : 100000 < c.out.length + c.len
      · rw [if_pos h6]
        go_enter Tryz.func179, Tryz.ntmps179
        go_upto_region 1 with fail
        go_region_held3 (fun w' => w'.cell? ⟨q, 36, none⟩ = some (.int .i64 (c.extra : Nat)))
          (first | (with_reducible assumption) | (go_keep; done))
          ((go_at_call 85; refine Calls.mono HN.out ?_; rintro e w1 ⟨rfl, hR, hg⟩; have k36 := hg.cell (show w.drew.cell? ⟨q, 36, none⟩ = some (.int .i64 (c.extra : Nat)) from q36) (by have := HM.out.lm.ne; simpa using this)))
        have h1 := HMd.out.went hR hg
        have HB1 := hideM (HBd.out.trans (HMd.out.bel hg))
        have TC := hideM (tellCopy_any q p hB g s B zs aft { c with lc := { c.lc with i := c.lc.i + c.extra } } (c.base + F) w1 h1 (by show 7 ≤ c.st; omega) hol (by omega) (by omega) hn0 hn1)
        obtain ⟨T, hRr, _⟩ := h1.ex
        have q35 := hRr.c35
        have hq1 := h1.lt
        dsimp only at q35
        have hsum : ((c.base + F : Nat) : Int) = (c.base : Int) + (F : Int) := by omega
        rw [hsum] at TC
        clear h1 hRr hR hg HN HM q36 k36 hd HMd HBd hsum
        go_wp2_with fail
        refine Calls.mono TC.out ?_
        rintro e w2 hP
        obtain ⟨rfl, hX, hT⟩ := hP.2.1 (show c.base + F ≤ c.t.length by omega) h6
        have HX := hideM hX
        have HT := hideM (HB1.out.trans hT)
        clear hP hX hT TC HB1
        go_wp2_with fail
        exact bodyPost_ret (v := .tuple #[.func (Fn.func 129) #[.pointer (some ⟨q, 0, none⟩)] #[], flt 6]) (by simp [results, Tryz.results179, go_sem, flt]) rfl (IPost.no HX.out HT.out)
      · rw [if_neg h6]
        go_enter Tryz.func179, Tryz.ntmps179
        go_upto_region 1 with fail
        go_region_held3 (fun w' => w'.cell? ⟨q, 36, none⟩ = some (.int .i64 (c.extra : Nat)))
          (first | (with_reducible assumption) | (go_keep; done))
          ((go_at_call 85; refine Calls.mono HN.out ?_; rintro e w1 ⟨rfl, hR, hg⟩; have k36 := hg.cell (show w.drew.cell? ⟨q, 36, none⟩ = some (.int .i64 (c.extra : Nat)) from q36) (by have := HM.out.lm.ne; simpa using this)))
        have h1 := HMd.out.went hR hg
        have HB1 := hideM (HBd.out.trans (HMd.out.bel hg))
        have TC := hideM (tellCopy_any q p hB g s B zs aft { c with lc := { c.lc with i := c.lc.i + c.extra } } (c.base + F) w1 h1 (by show 7 ≤ c.st; omega) hol (by omega) (by omega) hn0 hn1)
        obtain ⟨T, hRr, _⟩ := h1.ex
        have q35 := hRr.c35
        have hq1 := h1.lt
        dsimp only at q35
        have hsum : ((c.base + F : Nat) : Int) = (c.base : Int) + (F : Int) := by omega
        rw [hsum] at TC
        clear h1 hRr hR hg HN HM q36 k36 hd HMd HBd hsum
        go_wp2_with fail
        refine Calls.mono TC.out ?_
        rintro e w2 hP
        obtain ⟨rfl, hX, hT⟩ := hP.2.2 (show c.base + F ≤ c.t.length by omega) (show c.out.length + c.len ≤ 100000 by omega)
        have HX := hideM hX
        have HT := hideM (HB1.out.trans hT)
        clear hP hX hT TC HB1
        go_wp2_with fail
        exact bodyPost_ret (v := .tuple #[.func (Fn.func 129) #[.pointer (some ⟨q, 0, none⟩)] #[], .nilIface]) (by simp [results, Tryz.results179, go_sem]) rfl (IPost.ok rfl (HX.out.at (by show 7 ≤ c.st; omega) 12 (by omega) (fun _ _ => ⟨by show 12 ≤ c.st; omega, by show c.st ≤ 15; omega⟩)) HT.out)
  · rw [if_neg hn]
    have HN := hideM (number_no q p hB zs c.lc.i c.extra w.drew hMd.lm.c0 hMd.lm.rd hzl (by omega) hn)
    have HB1 := hideM (show 3 ≤ B ∧ B ≤ q ∧ B ≤ p ∧ B ≤ g from hM.bs)
    clear hM hn hRr hMd
    unfold flt at HN
    go_enter Tryz.func179, Tryz.ntmps179
    go_upto_region 1 with fail
    go_region_held3 (fun w' => w'.cell? ⟨q, 36, none⟩ = some (.int .i64 (c.extra : Nat)))
      (first | (with_reducible assumption) | (go_keep; done))
      ((go_at_call 85; refine Calls.mono HN.out ?_; rintro e w1 ⟨rfl, hb⟩; have k36 := (hb.cell (p := ⟨q, 36, none⟩) hqw).trans (show w.drew.cell? ⟨q, 36, none⟩ = some (.int .i64 (c.extra : Nat)) from q36)))
    have HM2 := hideM (HMd.out.below hb)
    have HT2 := hideM (HBd.out.trans (hb.mono (show B ≤ w.drew.heap.size from by have := HB1.out; show B ≤ w.heap.size; omega)))
    clear hb HN HM q36 k36 hd HMd HBd
    go_wp2_with fail
    exact bodyPost_ret (v := .tuple #[.nilFunc, flt 2]) (by simp [results, Tryz.results179, go_sem, flt]) rfl (IPost.no HM2.out HT2.out)
end Go.Proofs.YtbddkkfakkedaaaGreatDoor
namespace Go.Proofs.YtbddkkfakkedaaaGreatDoor
open Go.RowKit
variable {KH : Nat → Option Obj}
attribute [local go_sem ↓] Go.wp_at_zero Go.wp_at_succ
set_option linter.unusedVariables false

/-- distance. -/
def distanceS (zs : List Int) (c : IC) : IC ⊕ (Int × IC) :=
  if (nx3 c.ud (field (bnum zs) c.lc.i (Nat.min (8 * zs.length - c.lc.i) 15)) (Nat.min (8 * zs.length - c.lc.i) 15)).1 = 1 then
    if 29 < (nx3 c.ud (field (bnum zs) c.lc.i (Nat.min (8 * zs.length - c.lc.i) 15)) (Nat.min (8 * zs.length - c.lc.i) 15)).2.1 then .inr (3, { c with lc := { c.lc with i := c.lc.i + (nx3 c.ud (field (bnum zs) c.lc.i (Nat.min (8 * zs.length - c.lc.i) 15)) (Nat.min (8 * zs.length - c.lc.i) 15)).2.2 } })
    else .inl { c with st := 15, base := (distR (nx3 c.ud (field (bnum zs) c.lc.i (Nat.min (8 * zs.length - c.lc.i) 15)) (Nat.min (8 * zs.length - c.lc.i) 15)).2.1).1, extra := (distR (nx3 c.ud (field (bnum zs) c.lc.i (Nat.min (8 * zs.length - c.lc.i) 15)) (Nat.min (8 * zs.length - c.lc.i) 15)).2.1).2, lc := { c.lc with i := c.lc.i + (nx3 c.ud (field (bnum zs) c.lc.i (Nat.min (8 * zs.length - c.lc.i) 15)) (Nat.min (8 * zs.length - c.lc.i) 15)).2.2 } }
  else if (nx3 c.ud (field (bnum zs) c.lc.i (Nat.min (8 * zs.length - c.lc.i) 15)) (Nat.min (8 * zs.length - c.lc.i) 15)).1 = 2 then .inr (2, c) else .inr (3, c)
set_option maxRecDepth 100000 in
set_option maxHeartbeats 6400000 in
theorem distance_any (q p hB g s B : Nat) (zs : List Int) (aft : Value) (c : IC) (w : World) (hM : IMem KH q p hB g s B zs aft w c) (hs : c.st = 14) (hud : c.ud.length ≤ 320) (hz : Octets zs) (hzl : zs.length ≤ 65536) :
    Calls Tryz.prog 171 #[.pointer (some ⟨q, 0, none⟩)] w fun e w' => IPost KH q p hB g s B zs aft (distanceS zs c) e w w' := by
  have hqw := hM.lt
  have HM := hideM hM
  obtain ⟨T, hRr, _⟩ := hM.ex
  obtain ⟨u, lo, hi, q34, hBC, hTk⟩ := hRr.c34.2 (by omega) (by omega)
  have hup : u ≠ p := fun e => hRr.ne.2.2.2.2.2.1 (e ▸ hTk u hBC.ge hBC.lt)
  have huw : u < w.heap.size := hRr.tlt u (hTk u hBC.ge hBC.lt)
  obtain ⟨tl, Sl, ml, Ll, td, Sd, md, Ld, u0, u1, TL, TD⟩ := hBC.now
  have hd : Below w.heap.size w w.drew := (Below.refl _ _).drew
  have hMd := hM.below hd
  have HMd := hideM hMd
  have HBd := hideM ((hd.mono (show B ≤ w.heap.size from by have := hM.bs; omega)))
  obtain ⟨n, hn⟩ : ∃ n, Nat.min (8 * zs.length - c.lc.i) 15 = n := ⟨_, rfl⟩
  have HSY := hideM (symbol_any q p hB td md Sd Ld c.ud zs c.lc.i n w.drew hMd.lm.c0 hM.lm.ne hMd.lm.rd (TD.below hd) hz hzl hn)
  unfold distanceS
  rw [hn]
  have hkd := nx3_kinds c.ud (field (bnum zs) c.lc.i n) n
  have hsy := nx3_sym (ls := c.ud) (b := field (bnum zs) c.lc.i n) (n := n)
  rcases hx : nx3 c.ud (field (bnum zs) c.lc.i n) n with ⟨k, s', l⟩
  rw [hx] at HSY hkd hsy
  dsimp only at hkd hsy ⊢
  have HBS := hideM hM.bs
  have HS := hideM hs
  clear hs
  clear hM hMd hx hRr hBC hTk TL TD u0
  by_cases hk1 : k = 1
  · subst hk1
    rw [if_pos rfl]
    obtain ⟨hs1, hl1⟩ := hsy rfl
    have HS1 : Hid (Calls Tryz.prog 156 #[.pointer (some ⟨q, 0, none⟩), .pointer (some ⟨td, 0, none⟩)] w.drew fun e w' => e = .returned (.tuple #[.int .i64 (s' : Nat), .nilIface]) ∧ Rd w' p hB zs (c.lc.i + l) ∧ w.drew.grownBy w' (some p)) := Calls.mono HSY.out (fun e w' h => h.1 rfl)
    clear HSY hkd hsy
    by_cases h29 : 29 < s'
    · rw [if_pos h29]
      have hb29 : decide ((s' : Int) > 29) = true := decide_eq_true (by omega)
      go_enter Tryz.func171, Tryz.ntmps171
      go_upto_region 1 with fail
      go_region_held3 (fun w' => w'.cell? ⟨q, 34, none⟩ = some (.pointer (some ⟨u, 0, none⟩)) ∧ w'.cell? ⟨u, 1, none⟩ = some (.pointer (some ⟨td, 0, none⟩)) ∧ q < w'.heap.size ∧ u < w'.heap.size)
        (first | (with_reducible assumption) | (go_keep; done) | (exact ⟨by assumption, by assumption, by assumption, by assumption⟩))
        ((go_at_call 156; refine Calls.mono HS1.out ?_; rintro e w2 ⟨rfl, hR, hg⟩; have K : w2.cell? ⟨q, 34, none⟩ = some (.pointer (some ⟨u, 0, none⟩)) ∧ w2.cell? ⟨u, 1, none⟩ = some (.pointer (some ⟨td, 0, none⟩)) ∧ q < w2.heap.size ∧ u < w2.heap.size := ⟨hg.cell (show w.drew.cell? ⟨q, 34, none⟩ = some (.pointer (some ⟨u, 0, none⟩)) from q34) (by have := HM.out.lm.ne; simpa using this), hg.cell (show w.drew.cell? ⟨u, 1, none⟩ = some (.pointer (some ⟨td, 0, none⟩)) from u1) (by simpa using hup), Nat.lt_of_lt_of_le hqw hg.size, Nat.lt_of_lt_of_le huw hg.size⟩; obtain ⟨K1, K2, K3, K4⟩ := K))
      have h1 := HMd.out.went hR hg
      have H1 := hideM h1
      have HB1 := hideM (HBd.out.trans (HMd.out.bel hg))
      have hq1 := h1.lt
      obtain ⟨T1, hR1, _⟩ := h1.ex
      have q35 := hR1.c35
      have q36 := hR1.c36
      have f35 := h1.lm.free 35
      have f36 := h1.lm.free 36
      clear h1 hR hg HS1 HM q34 u1 K1 K2 hd HMd HBd
      clear hR1 q35 q36 f35 f36
      go_wp2_with fail
      exact bodyPost_ret (v := .tuple #[.nilFunc, flt 3]) (by simp [results, Tryz.results171, go_sem, flt]) rfl (IPost.no H1.out HB1.out)
    · rw [if_neg h29]
      have hb29 : decide ((s' : Int) > 29) = false := decide_eq_false (by omega)
      obtain ⟨ba, ex, hbe⟩ : ∃ ba ex, distR s' = (ba, ex) := ⟨_, _, rfl⟩
      rw [hbe]
      dsimp only
      have HBE := hideM hbe
      clear hbe
      go_enter Tryz.func171, Tryz.ntmps171
      go_upto_region 1 with fail
      go_region_held3 (fun w' => w'.cell? ⟨q, 34, none⟩ = some (.pointer (some ⟨u, 0, none⟩)) ∧ w'.cell? ⟨u, 1, none⟩ = some (.pointer (some ⟨td, 0, none⟩)) ∧ q < w'.heap.size ∧ u < w'.heap.size)
        (first | (with_reducible assumption) | (go_keep; done) | (exact ⟨by assumption, by assumption, by assumption, by assumption⟩))
        ((go_at_call 156; refine Calls.mono HS1.out ?_; rintro e w2 ⟨rfl, hR, hg⟩; have K : w2.cell? ⟨q, 34, none⟩ = some (.pointer (some ⟨u, 0, none⟩)) ∧ w2.cell? ⟨u, 1, none⟩ = some (.pointer (some ⟨td, 0, none⟩)) ∧ q < w2.heap.size ∧ u < w2.heap.size := ⟨hg.cell (show w.drew.cell? ⟨q, 34, none⟩ = some (.pointer (some ⟨u, 0, none⟩)) from q34) (by have := HM.out.lm.ne; simpa using this), hg.cell (show w.drew.cell? ⟨u, 1, none⟩ = some (.pointer (some ⟨td, 0, none⟩)) from u1) (by simpa using hup), Nat.lt_of_lt_of_le hqw hg.size, Nat.lt_of_lt_of_le huw hg.size⟩; obtain ⟨K1, K2, K3, K4⟩ := K))
      have h1 := HMd.out.went hR hg
      have H1 := hideM h1
      have HB1 := hideM (HBd.out.trans (HMd.out.bel hg))
      have hq1 := h1.lt
      obtain ⟨T1, hR1, _⟩ := h1.ex
      have q35 := hR1.c35
      have q36 := hR1.c36
      have f35 := h1.lm.free 35
      have f36 := h1.lm.free 36
      clear h1 hR hg HS1 HM q34 u1 K1 K2 hd HMd HBd
      have LR := hideM (distRange_any s' (by omega) w2)
      rw [HBE.out] at LR
      dsimp only at LR
      have HX := hideM ((H1.out.setq 35 (by omega) (.int .i64 (ba : Nat)) c.last c.stored ba c.extra c.len (by simp) (by simp) (by simp) (by simp) (by simp)).setq 36 (by omega) (.int .i64 (ex : Nat)) c.last c.stored ba ex c.len (by simp) (by simp) (by simp) (by simp) (by simp))
      have HT := hideM ((HB1.out.trans (H1.out.belq 35 (.int .i64 (ba : Nat)))).trans ((H1.out.setq 35 (by omega) (.int .i64 (ba : Nat)) c.last c.stored ba c.extra c.len (by simp) (by simp) (by simp) (by simp) (by simp)).belq 36 (.int .i64 (ex : Nat))))
      clear H1 HB1 hR1 HBE
      dsimp only at q35 q36
      go_wp2_with fail
      refine Calls.mono LR.out ?_
      rintro e w3 ⟨rfl, rfl⟩
      go_wp2_with fail
      exact bodyPost_ret (v := .tuple #[.func (Fn.func 179) #[.pointer (some ⟨q, 0, none⟩)] #[], .nilIface]) (by simp [results, Tryz.results171, go_sem]) rfl (IPost.ok rfl (HX.out.at (by have := HS.out; show 7 ≤ c.st; omega) 15 (by omega) (fun _ _ => ⟨by have := HS.out; show 12 ≤ c.st; omega, by have := HS.out; show c.st ≤ 15; omega⟩)) HT.out)
  · rw [if_neg hk1]
    have hcl : ∃ dd : Int, (dd = 2 ∨ dd = 3) ∧ (if k = 2 then (.inr (2, c) : IC ⊕ (Int × IC)) else .inr (3, c)) = .inr (dd, c) ∧ Hid (Calls Tryz.prog 156 #[.pointer (some ⟨q, 0, none⟩), .pointer (some ⟨td, 0, none⟩)] w.drew fun e w' => e = .returned (.tuple #[.int .i64 0, flt dd]) ∧ Below w.drew.heap.size w.drew w') := by
      rcases hkd with rfl | rfl | rfl
      · exact ⟨3, .inr rfl, rfl, Calls.mono HSY.out (fun e w' h => h.2.2 rfl)⟩
      · exact absurd rfl hk1
      · exact ⟨2, .inl rfl, rfl, Calls.mono HSY.out (fun e w' h => h.2.1 rfl)⟩
    obtain ⟨dd, _, hdd, HS1⟩ := hcl
    rw [hdd]
    clear HSY hkd hdd hsy hk1
    unfold flt at HS1
    go_enter Tryz.func171, Tryz.ntmps171
    go_upto_region 1 with fail
    go_region_held3 (fun w' => w'.cell? ⟨q, 34, none⟩ = some (.pointer (some ⟨u, 0, none⟩)) ∧ w'.cell? ⟨u, 1, none⟩ = some (.pointer (some ⟨td, 0, none⟩)) ∧ q < w'.heap.size ∧ u < w'.heap.size)
      (first | (with_reducible assumption) | (go_keep; done) | (exact ⟨by assumption, by assumption, by assumption, by assumption⟩))
      ((go_at_call 156; refine Calls.mono HS1.out ?_; rintro e w2 ⟨rfl, hb⟩; have K : w2.cell? ⟨q, 34, none⟩ = some (.pointer (some ⟨u, 0, none⟩)) ∧ w2.cell? ⟨u, 1, none⟩ = some (.pointer (some ⟨td, 0, none⟩)) ∧ q < w2.heap.size ∧ u < w2.heap.size := ⟨(hb.cell (p := ⟨q, 34, none⟩) hqw).trans q34, (hb.cell (p := ⟨u, 1, none⟩) huw).trans u1, Nat.lt_of_lt_of_le hqw hb.size, Nat.lt_of_lt_of_le huw hb.size⟩; obtain ⟨K1, K2, K3, K4⟩ := K))
    have HM2 := hideM (HMd.out.below hb)
    have HT2 := hideM (HBd.out.trans (hb.mono (show B ≤ w.drew.heap.size from by have := HBS.out; show B ≤ w.heap.size; omega)))
    clear hb HS1 HM q34 u1 K1 K2 hd HMd HBd
    go_wp2_with fail
    exact bodyPost_ret (v := .tuple #[.nilFunc, flt dd]) (by simp [results, Tryz.results171, go_sem, flt]) rfl (IPost.no HM2.out HT2.out)
end Go.Proofs.YtbddkkfakkedaaaGreatDoor
