import Derived.BigRegion
import Derived.Test.YtbddkkfakkedaaaGreatDoorMAV
import Derived.Test.YtbddkkfakkedaaaGreatDoorMBB
namespace Go.Proofs.YtbddkkfakkedaaaGreatDoor
open Go.RowKit
attribute [local go_sem ↓] Go.wp_at_zero Go.wp_at_succ
set_option linter.unusedVariables false

/-- Whether the symbol i has a code that the next fifteen bits, as a number, fall under. -/
def covB (ls : List Int) (X i : Nat) : Bool := decide (ls.getD i 0 = (ln ls i : Int)) && decide (1 ≤ ln ls i) && decide (ln ls i ≤ 15) && decide (bg ls i ≤ X) && decide (X < bg ls i + 2 ^ (15 - ln ls i))
theorem covB_iff {ls : List Int} {X i : Nat} (hi : i < ls.length) : covB ls X i = true ↔ cov ls i X := by
  unfold covB cov
  simp only [Bool.and_eq_true, decide_eq_true_eq]
  exact ⟨fun h => ⟨⟨hi, h.1.1.1.1, h.1.1.1.2, h.1.1.2⟩, h.1.2, h.2⟩, fun h => ⟨⟨⟨⟨h.1.is, h.1.pos⟩, h.1.most⟩, h.2.1⟩, h.2.2⟩⟩
/-- What the next bits say by the code of ls: kind, symbol, length. -/
def nx3 (ls : List Int) (b n : Nat) : Nat × Nat × Nat :=
  if okC ls = true ∧ n ≤ 64 then
    match (List.range ls.length).find? (covB ls (tr (b % 2 ^ n) 15)) with
    | some i => if ln ls i ≤ n then (1, i, ln ls i) else (2, 0, 0)
    | none => (0, 0, 0)
  else (0, 0, 0)
theorem nx3_some {ls : List Int} {b n i : Nat} (h1 : okC ls = true) (h2 : n ≤ 64) (h : cov ls i (tr (b % 2 ^ n) 15)) : nx3 ls b n = if ln ls i ≤ n then (1, i, ln ls i) else (2, 0, 0) := by
  unfold nx3
  rw [if_pos ⟨h1, h2⟩]
  cases hf : (List.range ls.length).find? (covB ls (tr (b % 2 ^ n) 15)) with
  | none =>
    rw [List.find?_eq_none] at hf
    exact absurd ((covB_iff h.1.lt).2 h) (hf i (List.mem_range.2 h.1.lt))
  | some j =>
    have hj := List.find?_some hf
    have hm := List.mem_range.1 (List.mem_of_find?_eq_some hf)
    have e := cov_one h ((covB_iff hm).1 hj)
    subst e
    rfl
theorem nx3_of {ls : List Int} {b n k s l : Nat} (h : AnsN ls b n k s l) : nx3 ls b n = (k, s, l) := by
  unfold AnsN at h
  by_cases hc : okC ls = true ∧ (0 : Int) ≤ (n : Int) ∧ (n : Int) ≤ 64
  · rw [if_pos hc, Int.toNat_natCast] at h
    have h64 : n ≤ 64 := by omega
    rcases h with ⟨i, h1, h2, rfl, rfl, rfl⟩ | ⟨i, h1, h2, rfl, rfl, rfl⟩ | ⟨h0, rfl, rfl, rfl⟩
    · rw [nx3_some hc.1 h64 h1, if_pos h2]
    · rw [nx3_some hc.1 h64 h1, if_neg (by omega)]
    · unfold nx3
      rw [if_pos ⟨hc.1, h64⟩]
      cases hf : (List.range ls.length).find? (covB ls (tr (b % 2 ^ n) 15)) with
      | none => rfl
      | some j =>
        have hj := List.find?_some hf
        have hm := List.mem_range.1 (List.mem_of_find?_eq_some hf)
        exact absurd ((covB_iff hm).1 hj) (h0 j)
  · rw [if_neg hc] at h
    unfold nx3
    rw [if_neg (fun x => hc ⟨x.1, by omega, by omega⟩), h.1, h.2.1, h.2.2]
theorem nx3_is (ls : List Int) (b n : Nat) : AnsN ls b n (nx3 ls b n).1 (nx3 ls b n).2.1 (nx3 ls b n).2.2 := by
  by_cases hc : okC ls = true ∧ n ≤ 64
  · refine AnsN.yes hc.1 hc.2 ?_
    by_cases hx : ∃ i, cov ls i (tr (b % 2 ^ n) 15)
    · obtain ⟨i, hi⟩ := hx
      rw [nx3_some hc.1 hc.2 hi]
      by_cases hn : ln ls i ≤ n
      · rw [if_pos hn]
        exact .inl ⟨i, hi, hn, rfl, rfl, rfl⟩
      · rw [if_neg hn]
        exact .inr (.inl ⟨i, hi, by omega, rfl, rfl, rfl⟩)
    · have h0 : ∀ i, ¬ cov ls i (tr (b % 2 ^ n) 15) := fun i hi => hx ⟨i, hi⟩
      rw [nx3_of (AnsN.yes hc.1 hc.2 (.inr (.inr ⟨h0, rfl, rfl, rfl⟩)))]
      exact .inr (.inr ⟨h0, rfl, rfl, rfl⟩)
  · have h : AnsN ls b n 0 0 0 := AnsN.no (fun x => hc ⟨x.1, by omega⟩)
    rw [nx3_of h]
    exact h
theorem AnsN.len {ls : List Int} {b n s l : Nat} (h : AnsN ls b n 1 s l) : l ≤ n ∧ s ≤ 320 := by
  unfold AnsN at h
  split at h
  · rename_i hc
    rcases h with ⟨i, h1, h2, _, h3, h4⟩ | ⟨i, _, _, h3, _⟩ | ⟨_, h3, _⟩
    · have h5 := (okC_out hc.1).2.1
      have h6 := h1.1.lt
      rw [Int.toNat_natCast] at h2
      omega
    · omega
    · omega
  · omega
theorem Rd.seen {w : World} {p hB : Nat} {zs : List Int} {i : Nat} (h : Rd w p hB zs i) : ∃ ao cap, Src w p (.slice ao (zs.length - i / 8) cap) ((i % 8 : Nat) : Int) (i : Int) := by
  obtain ⟨_, _, ao, cap, hs, _⟩ := h
  rw [List.length_drop] at hs
  exact ⟨ao, cap, hs⟩
theorem rd_peek (p hB : Nat) (zs : List Int) (i n : Nat) (w : World) (h : Rd w p hB zs i) (hz : Octets zs) (hzl : zs.length ≤ 65536) (n1 : n ≤ 32) (hn : i + n ≤ 8 * zs.length) :
    Calls Tryz.prog 161 #[.agg #[.pointer (some ⟨p, 0, none⟩)], .int .i64 n] w fun e w' => e = .returned (.int .u64 (field (bnum zs) i n : Nat)) ∧ Below w.heap.size w w' := by
  obtain ⟨hl, hne, ao, cap, hs, hr, hc, hb⟩ := h
  refine Calls.mono (peek_any p ao cap (zs.drop (i / 8)) ((i % 8 : Nat) : Int) (i : Int) n w hs hr (hz.drop _) hc (by rw [List.length_drop]; omega) (by omega) (by omega) n1 (by rw [List.length_drop]; omega)) ?_
  rintro e w' ⟨rfl, h2⟩
  refine ⟨?_, h2⟩
  rw [Int.toNat_natCast, field_drop zs hz i n hl]
theorem rd_pass (p hB : Nat) (zs : List Int) (i n : Nat) (w : World) (h : Rd w p hB zs i) (hzl : zs.length ≤ 65536) (hn : i + n ≤ 8 * zs.length) :
    Calls Tryz.prog 133 #[.pointer (some ⟨p, 0, none⟩), .int .i64 n] w fun e w' => e = .returned (.tuple #[]) ∧ Rd w' p hB zs (i + n) ∧ w.grownBy w' (some p) := by
  obtain ⟨hl, hne, ao, cap, hs, hr, hc, hb⟩ := h
  refine Calls.mono (pass_any p ao (zs.drop (i / 8)).length cap ((i % 8 : Nat) : Int) (i : Int) n w hs (by rw [List.length_drop]; omega) (by omega) (by omega) (by omega) (by omega) (by omega) (by rw [List.length_drop]; omega)) ?_
  rintro e w' ⟨rfl, hs', hg, _⟩
  exact ⟨rfl, Rd.moved hn hs' hr hc hne hb hg, hg⟩
/-- What symbol answers. -/
def SymPost (p hB : Nat) (zs : List Int) (i : Nat) (t : Nat × Nat × Nat) (e : Ending) (w w' : World) : Prop :=
  (t.1 = 1 → e = .returned (.tuple #[.int .i64 (t.2.1 : Nat), .nilIface]) ∧ Rd w' p hB zs (i + t.2.2) ∧ w.grownBy w' (some p)) ∧ (t.1 = 2 → e = .returned (.tuple #[.int .i64 0, flt 2]) ∧ Below w.heap.size w w') ∧ (t.1 = 0 → e = .returned (.tuple #[.int .i64 0, flt 3]) ∧ Below w.heap.size w w')
theorem AnsN.kinds {ls : List Int} {b n k s l : Nat} (h : AnsN ls b n k s l) : k = 0 ∨ k = 1 ∨ k = 2 := by
  unfold AnsN at h
  split at h
  · rcases h with ⟨i, _, _, h3, _⟩ | ⟨i, _, _, h3, _⟩ | ⟨_, h3, _⟩
    · exact .inr (.inl h3)
    · exact .inr (.inr h3)
    · exact .inl h3
  · exact .inl h.1
theorem TabOf.below {ls : List Int} {w w' : World} {t m : Nat} {S : Nat → Nat × Nat} {L : Nat → Nat → Nat × Nat} (h : TabOf ls w t S m L) (hb : Below w.heap.size w w') : TabOf ls w' t S m L := { h with tab := h.tab.below hb }
set_option maxRecDepth 100000 in
set_option maxHeartbeats 3200000 in
theorem symbol_any (q p hB t m : Nat) (S : Nat → Nat × Nat) (L : Nat → Nat → Nat × Nat) (ls zs : List Int) (i n : Nat) (w : World) (hm : w.cell? ⟨q, 0, none⟩ = some (.pointer (some ⟨p, 0, none⟩))) (hqp : q ≠ p) (h : Rd w p hB zs i) (hT : TabOf ls w t S m L) (hz : Octets zs) (hzl : zs.length ≤ 65536)
    (hn : Nat.min (8 * zs.length - i) 15 = n) :
    Calls Tryz.prog 156 #[.pointer (some ⟨q, 0, none⟩), .pointer (some ⟨t, 0, none⟩)] w fun e w' => SymPost p hB zs i (nx3 ls (field (bnum zs) i n) n) e w w' := by
  have hle := h.le
  have hn1 : n ≤ 15 := by rw [← hn]; exact Nat.min_le_right _ _
  have hn2 : n ≤ 8 * zs.length - i := by rw [← hn]; exact Nat.min_le_left _ _
  obtain ⟨ao, cap, s0, s1, s2, _⟩ := h.seen
  obtain ⟨Lh, hLh⟩ : ∃ x, zs.length - i / 8 = x := ⟨_, rfl⟩
  obtain ⟨A, hA⟩ : ∃ x, i % 8 = x := ⟨_, rfl⟩
  have hmin : min (8 * (Lh : Int) - (A : Int)) 15 = (n : Int) := by rw [← hn]; have e : Nat.min (8 * zs.length - i) 15 = min (8 * zs.length - i) 15 := rfl; omega
  have hLb : Lh ≤ 65536 := by omega
  have hAb : A ≤ 7 := by omega
  rw [hLh] at s0
  rw [hA] at s1
  have hF : field (bnum zs) i n < 2 ^ 64 := Nat.lt_of_lt_of_le (field_lt _ _ _) (Nat.pow_le_pow_right (by decide) (by omega))
  have HP := hideM (rd_peek p hB zs i n w.drew (h.below ((Below.refl _ _).drew)) hz hzl (by omega) (by omega))
  have hqw : q < w.heap.size := World.block_lt_of_cell? w _ hm
  have hpw : p < w.heap.size := World.block_lt_of_cell? w _ s0
  have HT := hideM hT
  have HR := hideM h
  have HZL : Hid (zs.length ≤ 65536 ∧ n ≤ 8 * zs.length - i ∧ i ≤ 8 * zs.length) := ⟨hzl, hn2, hle⟩
  generalize field (bnum zs) i n = F at *
  clear hT h hn hLh hA hle hn2 hz hzl
  go_enter Tryz.func156, Tryz.ntmps156
  go_upto_region 1 with fail
  go_region
  go_wp2_with fail
  refine Calls.mono HP.out ?_
  rintro e w1 ⟨rfl, hb1⟩
  have hB1 : Below w.heap.size w w1 := ((Below.refl _ _).drew).trans hb1
  have HB1 := hideM hB1
  have HN := hideM ((HT.out.below hB1).next ls t m F n S L w1 hF (by omega))
  clear hb1 hB1 HP
  go_wp2_with fail
  refine Calls.mono HN.out ?_
  rintro e w2 ⟨⟨k, s', l, rfl, ha⟩, hb2⟩
  have hB2 := HB1.out.trans (hb2.mono HB1.out.size)
  have HX := hideM (nx3_of ha)
  have hkk := ha.kinds
  have HLN : Hid (k = 1 → l ≤ n ∧ s' ≤ 320) := fun e => by subst e; exact ha.len
  have hba : Below w2.heap.size w2 (w2.alloc (.cells #[.int .i64 k, .int .i64 s', .int .i64 l] 250)) := (Below.refl _ _).alloc (Nat.le_refl _) _
  have hB3 := hB2.trans (hba.mono hB2.size)
  have HB3 := hideM hB3
  obtain ⟨x0, x1, x2, _⟩ := res3_new w2 (k : Int) (s' : Int) (l : Int) 250
  have m3 := (hB3.cell (p := ⟨q, 0, none⟩) hqw).trans hm
  have HR3 := hideM (HR.out.below hB3)
  have hs3 : w2.heap.size < (w2.alloc (.cells #[.int .i64 k, .int .i64 s', .int .i64 l] 250)).heap.size := by simp
  have hw2 : w.heap.size ≤ w2.heap.size := hB2.size
  obtain ⟨w3, hw3⟩ : ∃ w3, w2.alloc (.cells #[.int .i64 k, .int .i64 s', .int .i64 l] 250) = w3 := ⟨_, rfl⟩
  rw [hw3] at HB3 x0 x1 x2 m3 HR3 hs3
  have X0 := hideM x0
  have X1 := hideM x1
  have X2 := hideM x2
  clear ha hb2 hB2 hba hB3 HB1 HN s0 s1 s2 hmin hm HT HR x0 x1 x2
  go_upto_region 3 with fail
  have x0 := X0.out
  have x1 := X1.out
  have x2 := X2.out
  clear hw3 X0 X1 X2
  have hpx : w2.heap.size ≠ p := by omega
  rcases hkk with rfl | rfl | rfl
  · have HQ : Hid (SymPost p hB zs i (nx3 ls F n) (.returned (.tuple #[.int .i64 0, flt 3])) w w3) := by
      rw [HX.out]
      exact ⟨(fun e => absurd e (by decide : ¬ ((0:Nat) = 1))), (fun e => absurd e (by decide : ¬ ((0:Nat) = 2))), (fun _ => ⟨rfl, HB3.out⟩)⟩
    go_wp2_with fail
    exact bodyPost_ret (v := .tuple #[.int .i64 0, flt 3]) (by simp [results, Tryz.results156, go_sem, flt]) rfl HQ.out
  · obtain ⟨hl, hs'⟩ := HLN.out rfl
    have HPS := hideM (fun W (hb : Below w3.heap.size w3 W) => rd_pass p hB zs i l W (HR3.out.below hb) HZL.out.1 (by have := HZL.out; omega))
    go_upto_region 8 with fail
    go_region_held3 (fun w' => w'.cell? ⟨q, 0, none⟩ = some (.pointer (some ⟨p, 0, none⟩)) ∧ w'.cell? ⟨w2.heap.size, 2, none⟩ = some (.int .i64 l))
      (first | (refine ⟨?_, ?_⟩ <;> with_reducible assumption) | (go_keep; done))
      ((go_at_call 133; refine Calls.mono (HPS.out _ ((Below.refl _ _).drew)) ?_; rintro e w7 ⟨rfl, hR7, hg7⟩; have q0 := hg7.cell (show w3.drew.cell? ⟨q, 0, none⟩ = some (.pointer (some ⟨p, 0, none⟩)) from m3) (by simp; omega); have q1 := hg7.cell (show w3.drew.cell? ⟨w2.heap.size, 1, none⟩ = some (.int .i64 s') from x1) (by simp; omega); have q2 := hg7.cell (show w3.drew.cell? ⟨w2.heap.size, 2, none⟩ = some (.int .i64 l) from x2) (by simp; omega)))
    have hg8 : w.grownBy w7 (some p) := grownBy_trans (grownBy_of_below (HB3.out.drew) (some p)) hg7
    have HQ : Hid (SymPost p hB zs i (nx3 ls F n) (.returned (.tuple #[.int .i64 s', .nilIface])) w w7) := by
      rw [HX.out]
      exact ⟨(fun _ => ⟨rfl, hR7, hg8⟩), (fun e => absurd e (by decide : ¬ ((1:Nat) = 2))), (fun e => absurd e (by decide : ¬ ((1:Nat) = 0)))⟩
    have hsz7 := hg7.size
    clear hg7 hg8 hR7
    go_wp2_with fail
    exact bodyPost_ret (v := .tuple #[.int .i64 s', .nilIface]) (by simp [results, Tryz.results156, go_sem]) rfl HQ.out
  · have HQ : Hid (SymPost p hB zs i (nx3 ls F n) (.returned (.tuple #[.int .i64 0, flt 2])) w w3) := by
      rw [HX.out]
      exact ⟨(fun e => absurd e (by decide : ¬ ((2:Nat) = 1))), (fun _ => ⟨rfl, HB3.out⟩), (fun e => absurd e (by decide : ¬ ((2:Nat) = 0)))⟩
    go_wp2_with fail
    exact bodyPost_ret (v := .tuple #[.int .i64 0, flt 2]) (by simp [results, Tryz.results156, go_sem, flt]) rfl HQ.out
end Go.Proofs.YtbddkkfakkedaaaGreatDoor
namespace Go.Proofs.YtbddkkfakkedaaaGreatDoor
open Go.RowKit
attribute [local go_sem ↓] Go.wp_at_zero Go.wp_at_succ
set_option linter.unusedVariables false

theorem cellFar {w w' : World} {r q : Nat} (hg : w.grownBy w' (some r)) (hlt : q < w.heap.size) (hne : q ≠ r) (o : Nat) : w'.cell? ⟨q, o, none⟩ = w.cell? ⟨q, o, none⟩ := World.cell?_of_block (w := w) (a := ⟨q, o, none⟩) (hg.block q hlt (by simpa using hne))
theorem frozenFar {w w' : World} {r q : Nat} (hg : w.grownBy w' (some r)) (hlt : q < w.heap.size) (hne : q ≠ r) (o : Nat) : w'.frozen? ⟨q, o, none⟩ = w.frozen? ⟨q, o, none⟩ := World.frozen?_of_block (w := w) (a := ⟨q, o, none⟩) (hg.block q hlt (by simpa using hne))
/-- Where a machine for lengths stands: its state's number, the bits read, its numbers by their cells (2 lits, 3 dists, 4 codes, 5.. codeLens, 24 codesRead, 27 repeated), the lengths of its table's code, the lengths read. -/
structure LC where
  st : Nat
  i : Nat
  f : Nat → Int
  tb : List Int
  lens : List Int
/-- The cells that hold numbers. -/
def isNum (k : Nat) : Prop := (2 ≤ k ∧ k ≤ 24) ∨ k = 27
def upd (f : Nat → Int) (k : Nat) (x : Int) : Nat → Int := fun j => if j = k then x else f j
/-- The order of the code of lengths. -/
def ord19 (k : Nat) : Nat := [16, 17, 18, 0, 8, 7, 9, 6, 10, 5, 11, 4, 12, 3, 13, 2, 14, 1, 15].getD k 0
/-- The machine's memory. -/
structure LMem (q p hB : Nat) (zs : List Int) (rdy : Value) (w : World) (c : LC) : Prop where
  ne : q ≠ p
  neh : hB ≠ q
  two : 3 ≤ q ∧ 3 ≤ p ∧ 3 ≤ hB
  rd : Rd w p hB zs c.i
  c0 : w.cell? ⟨q, 0, none⟩ = some (.pointer (some ⟨p, 0, none⟩))
  c1 : ∃ old, w.cell? ⟨q, 1, none⟩ = some old
  num : ∀ k, isNum k → w.cell? ⟨q, k, none⟩ = some (.int .i64 (c.f k))
  c25 : ∃ old, w.cell? ⟨q, 25, none⟩ = some old
  c28 : w.cell? ⟨q, 28, none⟩ = some rdy
  free : ∀ k, w.frozen? ⟨q, k, none⟩ = false
  own : ∃ B v, q < B ∧ p < B ∧ hB < B ∧ B ≤ w.heap.size ∧ w.cell? ⟨q, 26, none⟩ = some v ∧ w.ownsRow B 2 1 v c.lens.length (c.lens.map (Value.int .i64)) ∧ (1 ≤ c.st → c.st ≤ 3 → v = .slice none 0 0) ∧
    (4 ≤ c.st → ∃ t S m L w0, w.cell? ⟨q, 25, none⟩ = some (.pointer (some ⟨t, 0, none⟩)) ∧ TabOf c.tb w0 t S m L ∧ q < t ∧ p < t ∧ w0.heap.size ≤ B ∧ ∀ k, t ≤ k → k < w0.heap.size → w.heap[k]? = w0.heap[k]?)
  g0 : w.cell? ⟨1, 0, none⟩ = some (.iface 227 (.agg #[.pointer (some ⟨3, 111, none⟩)]))
  g1 : ∀ k, k < 19 → w.cell? ⟨2, k, none⟩ = some (.int .i64 (ord19 k : Nat))
/-- Nothing but the machine's first cells, its source and its lengths has been written. -/
structure Trod (q p : Nat) (w w' : World) : Prop where
  os : w'.os = w.os
  tape : w'.tape = w.tape
  output : w'.output = w.output
  size : w.heap.size ≤ w'.heap.size
  block : ∀ k, k < w.heap.size → k ≠ q → k ≠ p → (∀ v, w.cell? ⟨q, 26, none⟩ = some v → v.ownBlock ≠ some k) → w'.heap[k]? = w.heap[k]?
  rest : ∀ o, 29 ≤ o → w'.cell? ⟨q, o, none⟩ = w.cell? ⟨q, o, none⟩
  own : ∀ v' k, w'.cell? ⟨q, 26, none⟩ = some v' → v'.ownBlock = some k → w.heap.size ≤ k ∨ ∃ v, w.cell? ⟨q, 26, none⟩ = some v ∧ v.ownBlock = some k
theorem Trod.refl (q p : Nat) (w : World) : Trod q p w w := ⟨rfl, rfl, rfl, Nat.le_refl _, (fun _ _ _ _ _ => rfl), (fun _ _ => rfl), (fun v k h1 h2 => .inr ⟨v, h1, h2⟩)⟩
theorem Trod.trans {q p : Nat} {a b c : World} (h : Trod q p a b) (k : Trod q p b c) : Trod q p a c := by
  refine ⟨k.os.trans h.os, k.tape.trans h.tape, k.output.trans h.output, Nat.le_trans h.size k.size, ?_, ?_, ?_⟩
  · intro j hj h1 h2 h3
    rw [k.block j (Nat.lt_of_lt_of_le hj h.size) h1 h2 ?_, h.block j hj h1 h2 h3]
    intro v hv e
    rcases h.own v j hv e with h4 | ⟨v0, h4, h5⟩
    · omega
    · exact h3 v0 h4 h5
  · intro o ho
    rw [k.rest o ho, h.rest o ho]
  · intro v' j h1 h2
    rcases k.own v' j h1 h2 with h3 | ⟨v, h3, h4⟩
    · exact .inl (Nat.le_trans h.size h3)
    · exact h.own v j h3 h4
/-- A step of the source alone. -/
theorem Trod.num {q p : Nat} {w w' : World} (hq : q ≠ p) (hlt : q < w.heap.size) (hg : w.grownBy w' (some p)) : Trod q p w w' := by
  have hc : ∀ o, w'.cell? ⟨q, o, none⟩ = w.cell? ⟨q, o, none⟩ := fun o => cellFar hg hlt hq o
  refine ⟨hg.os, hg.tape, hg.output, hg.size, ?_, (fun o _ => hc o), ?_⟩
  · intro k hk _ h2 _
    exact hg.block k hk (by simpa using h2)
  · intro v k h1 h2
    exact .inr ⟨v, (hc 26) ▸ h1, h2⟩
theorem Trod.below {q p : Nat} {w w' : World} (hlt : q < w.heap.size) (hb : Below w.heap.size w w') : Trod q p w w' := by
  have hc : ∀ o, w'.cell? ⟨q, o, none⟩ = w.cell? ⟨q, o, none⟩ := fun o => hb.cell (p := ⟨q, o, none⟩) hlt
  exact ⟨hb.os, hb.tape, hb.output, hb.size, (fun k hk _ _ _ => hb.block k hk), (fun o _ => hc o), (fun v k h1 h2 => .inr ⟨v, (hc 26) ▸ h1, h2⟩)⟩
theorem Trod.set {q p : Nat} {w : World} (k : Nat) (v : Value) (hk : k < 26) : Trod q p w (w.setCell ⟨q, k, none⟩ v) := by
  have hc : ∀ o, 26 ≤ o → (w.setCell ⟨q, k, none⟩ v).cell? ⟨q, o, none⟩ = w.cell? ⟨q, o, none⟩ := fun o ho => World.cell?_setCell_other _ _ _ _ (by first | (simp; done) | (simp; omega))
  have hg := grownBy_setCell w ⟨q, k, none⟩ v
  refine ⟨hg.os, hg.tape, hg.output, hg.size, ?_, (fun o ho => hc o (by omega)), (fun v k h1 h2 => .inr ⟨v, (hc 26 (by omega)) ▸ h1, h2⟩)⟩
  intro j hj h1 _ _
  exact hg.block j hj (by simpa using h1)
theorem LMem.lt {q p hB : Nat} {zs : List Int} {rdy : Value} {w : World} {c : LC} (h : LMem q p hB zs rdy w c) : q < w.heap.size := World.block_lt_of_cell? w _ h.c0
/-- The source has gone on. -/
theorem LMem.went {q p hB : Nat} {zs : List Int} {rdy : Value} {w w' : World} {c : LC} {i' : Nat} (h : LMem q p hB zs rdy w c) (hr : Rd w' p hB zs i') (hg : w.grownBy w' (some p)) : LMem q p hB zs rdy w' { c with i := i' } := by
  have hq := h.lt
  have hc : ∀ o, w'.cell? ⟨q, o, none⟩ = w.cell? ⟨q, o, none⟩ := fun o => cellFar hg hq h.ne o
  obtain ⟨B, v, b1, b2, b3, b4, b5, b6, b7, b8⟩ := h.own
  refine ⟨h.ne, h.neh, h.two, hr, (hc 0).trans h.c0, ?_, (fun k hk => (hc k).trans (h.num k hk)), ?_, (hc 28).trans h.c28, ?_, ?_, ?_, ?_⟩
  · obtain ⟨old, ho⟩ := h.c1
    exact ⟨old, (hc 1).trans ho⟩
  · obtain ⟨old, ho⟩ := h.c25
    exact ⟨old, (hc 25).trans ho⟩
  · intro k
    rw [frozenFar hg hq h.ne k]
    exact h.free k
  · refine ⟨B, v, b1, b2, b3, Nat.le_trans b4 hg.size, (hc 26).trans b5, ?_, b7, ?_⟩
    · refine b6.kept hg ?_
      obtain ⟨_, hx⟩ := b6
      rcases hx with ⟨rfl, _⟩ | ⟨g, cap, cur, rfl, hb, _⟩
      · exact .inl rfl
      · refine .inr ?_
        simp [Value.ownBlock]
        omega
    · intro hs
      obtain ⟨t, S, m, L, w0, h1, h2, h3, h4, h5, h6⟩ := b8 hs
      refine ⟨t, S, m, L, w0, (hc 25).trans h1, h2, h3, h4, h5, fun k k1 k2 => ?_⟩
      rw [← h6 k k1 k2]
      exact hg.block k (by omega) (by simp; omega)
  · exact hg.cell h.g0 (by simp; have := h.two; omega)
  · exact fun k hk => hg.cell (h.g1 k hk) (by simp; have := h.two; omega)
/-- A number of the machine's has been laid. -/
theorem LMem.set {q p hB : Nat} {zs : List Int} {rdy : Value} {w : World} {c : LC} (h : LMem q p hB zs rdy w c) (k : Nat) (hk : isNum k) (x : Int) : LMem q p hB zs rdy (w.setCell ⟨q, k, none⟩ (.int .i64 x)) { c with f := upd c.f k x } := by
  have hq := h.lt
  have hg := grownBy_setCell w ⟨q, k, none⟩ (.int .i64 x)
  have hc : ∀ o, o ≠ k → (w.setCell ⟨q, k, none⟩ (.int .i64 x)).cell? ⟨q, o, none⟩ = w.cell? ⟨q, o, none⟩ := fun o ho => World.cell?_setCell_other _ _ _ _ (by first | (simp; done) | (simp; omega))
  obtain ⟨B, v, b1, b2, b3, b4, b5, b6, b7, b8⟩ := h.own
  have hk' := hk
  unfold isNum at hk'
  refine ⟨h.ne, h.neh, h.two, h.rd.grown hg (by simp; exact Ne.symm h.ne) (by simp; exact h.neh), (hc 0 (by omega)).trans h.c0, ?_, ?_, ?_, (hc 28 (by omega)).trans h.c28, ?_, ?_, ?_, ?_⟩
  · obtain ⟨old, ho⟩ := h.c1
    exact ⟨old, (hc 1 (by omega)).trans ho⟩
  · intro j hj
    by_cases e : j = k
    · subst e
      rw [World.cell?_setCell_same _ _ _ (h.num j hk)]
      simp [upd]
    · rw [hc j e, h.num j hj]
      simp [upd, e]
  · obtain ⟨old, ho⟩ := h.c25
    exact ⟨old, (hc 25 (by omega)).trans ho⟩
  · intro j
    rw [World.frozen?_setCell]
    exact h.free j
  · refine ⟨B, v, b1, b2, b3, Nat.le_trans b4 hg.size, (hc 26 (by omega)).trans b5, ?_, b7, ?_⟩
    · refine b6.kept hg ?_
      obtain ⟨_, hx⟩ := b6
      rcases hx with ⟨rfl, _⟩ | ⟨g, cap, cur, rfl, hb, _⟩
      · exact .inl rfl
      · refine .inr ?_
        simp [Value.ownBlock]
        omega
    · intro hs
      obtain ⟨t, S, m, L, w0, h1, h2, h3, h4, h5, h6⟩ := b8 hs
      refine ⟨t, S, m, L, w0, (hc 25 (by omega)).trans h1, h2, h3, h4, h5, fun j k1 k2 => ?_⟩
      rw [← h6 j k1 k2]
      exact hg.block j (by omega) (by simp; omega)
  · exact hg.cell h.g0 (by simp; have := h.two; omega)
  · exact fun k hk => hg.cell (h.g1 k hk) (by simp; have := h.two; omega)
end Go.Proofs.YtbddkkfakkedaaaGreatDoor
namespace Go.Proofs.YtbddkkfakkedaaaGreatDoor
open Go.RowKit
attribute [local go_sem ↓] Go.wp_at_zero Go.wp_at_succ
set_option linter.unusedVariables false

/-- The function of a state. -/
def lfn (s : Nat) : Nat := if s = 0 then 126 else if s = 1 then 154 else if s = 2 then 168 else if s = 3 then 175 else if s = 4 then 182 else 187
/-- The next state as a value. -/
def lnow (q : Nat) (rdy : Value) (s : Nat) : Value := if s ≤ 5 then .func (Fn.func (lfn s)) #[.pointer (some ⟨q, 0, none⟩)] #[] else rdy
/-- What a state answers. -/
def LPost (q p hB : Nat) (zs : List Int) (rdy : Value) (r : LC ⊕ (Int × LC)) (e : Ending) (w w' : World) : Prop :=
  (∀ c', r = .inl c' → e = .returned (.tuple #[lnow q rdy c'.st, .nilIface]) ∧ LMem q p hB zs rdy w' c' ∧ Trod q p w w') ∧ (∀ k cf, r = .inr (k, cf) → ∃ v, e = .returned (.tuple #[v, flt k]) ∧ LMem q p hB zs rdy w' cf ∧ Trod q p w w')
theorem LPost.ok {q p hB : Nat} {zs : List Int} {rdy : Value} {c' : LC} {w w' : World} {v : Value} (hv : v = lnow q rdy c'.st) (hM : LMem q p hB zs rdy w' c') (hT : Trod q p w w') : LPost q p hB zs rdy (.inl c') (.returned (.tuple #[v, .nilIface])) w w' := by
  subst hv
  refine ⟨fun c h => ?_, fun k cf h => ?_⟩
  · injection h with h; subst h; exact ⟨rfl, hM, hT⟩
  · cases h
theorem LPost.no {q p hB : Nat} {zs : List Int} {rdy : Value} {k : Int} {cf : LC} {w w' : World} {v : Value} (hM : LMem q p hB zs rdy w' cf) (hT : Trod q p w w') : LPost q p hB zs rdy (.inr (k, cf)) (.returned (.tuple #[v, flt k])) w w' := by
  refine ⟨fun c h => ?_, fun k' cf' h => ?_⟩
  · cases h
  · injection h with h; injection h with h1 h2; subst h1; subst h2; exact ⟨v, rfl, hM, hT⟩
theorem LMem.at {q p hB : Nat} {zs : List Int} {rdy : Value} {w : World} {c : LC} (h : LMem q p hB zs rdy w c) (s : Nat) (h1 : 1 ≤ s → s ≤ 3 → 1 ≤ c.st ∧ c.st ≤ 3) (h4 : 4 ≤ s → 4 ≤ c.st) : LMem q p hB zs rdy w { c with st := s } := by
  obtain ⟨B, v, b1, b2, b3, b4, b5, b6, b7, b8⟩ := h.own
  exact ⟨h.ne, h.neh, h.two, h.rd, h.c0, h.c1, h.num, h.c25, h.c28, h.free, ⟨B, v, b1, b2, b3, b4, b5, b6, (fun x y => b7 (h1 x y).1 (h1 x y).2), (fun x => b8 (h4 x))⟩, h.g0, h.g1⟩
/-- codeCount. -/
def codeCountS (zs : List Int) (c : LC) : LC ⊕ (Int × LC) := if c.i + 4 ≤ 8 * zs.length then .inl { c with st := 3, i := c.i + 4, f := upd c.f 4 ((field (bnum zs) c.i 4 : Nat) + 4) } else .inr (2, c)
/-- distCount. -/
def distCountS (zs : List Int) (c : LC) : LC ⊕ (Int × LC) :=
  if c.i + 5 ≤ 8 * zs.length then
    if ((field (bnum zs) c.i 5 : Nat) : Int) + 1 > 30 then .inr (3, { c with i := c.i + 5, f := upd c.f 3 ((field (bnum zs) c.i 5 : Nat) + 1) }) else .inl { c with st := 2, i := c.i + 5, f := upd c.f 3 ((field (bnum zs) c.i 5 : Nat) + 1) }
  else .inr (2, c)
theorem field_small (x i n : Nat) (hn : n ≤ 7) : field x i n < 128 := Nat.lt_of_lt_of_le (field_lt _ _ _) (show 2 ^ n ≤ 128 from Nat.pow_le_pow_right (n := 2) (by decide) hn)
set_option maxRecDepth 100000 in
set_option maxHeartbeats 3200000 in
theorem codeCount_any (q p hB : Nat) (zs : List Int) (rdy : Value) (c : LC) (w : World) (hM : LMem q p hB zs rdy w c) (hs : c.st = 2) (hz : Octets zs) (hzl : zs.length ≤ 65536) :
    Calls Tryz.prog 168 #[.pointer (some ⟨q, 0, none⟩)] w fun e w' => LPost q p hB zs rdy (codeCountS zs c) e w w' := by
  have hqw := hM.lt
  have HM := hideM hM
  have HS := hideM hs
  clear hs
  unfold codeCountS
  by_cases hn : c.i + 4 ≤ 8 * zs.length
  · rw [if_pos hn]
    have HN := hideM (number_yes q p hB zs c.i 4 w hM.c0 hM.rd hz hzl (by decide) hn)
    have hF := field_small (bnum zs) c.i 4 (by decide)
    generalize field (bnum zs) c.i 4 = F at *
    clear hM hn
    go_enter Tryz.func168, Tryz.ntmps168
    go_wp2_with fail
    refine Calls.mono HN.out ?_
    rintro e w1 ⟨rfl, hR, hg⟩
    have hM1 := HM.out.went hR hg
    have HM2 := hideM ((hM1.set 4 (by unfold isNum; omega) ((F : Int) + 4)).at 3 (fun _ _ => by rw [show ({ c with i := c.i + 4, f := upd c.f 4 ((F : Int) + 4) } : LC).st = c.st from rfl, HS.out]; omega) (fun h => by omega))
    have HT2 := hideM ((Trod.num HM.out.ne hqw hg).trans (Trod.set 4 (.int .i64 ((F : Int) + 4)) (by decide)))
    have q4 := hM1.num 4 (by unfold isNum; omega)
    have f4 := hM1.free 4
    have hq1 := hM1.lt
    clear hM1 hR hg HN HM
    go_wp2_with fail
    exact bodyPost_ret (v := .tuple #[.func (Fn.func 175) #[.pointer (some ⟨q, 0, none⟩)] #[], .nilIface]) (by simp [results, Tryz.results168, go_sem]) rfl (LPost.ok rfl HM2.out HT2.out)
  · rw [if_neg hn]
    have HN := hideM (number_no q p hB zs c.i 4 w hM.c0 hM.rd hzl (by decide) hn)
    clear hM hn
    unfold flt at HN
    go_enter Tryz.func168, Tryz.ntmps168
    go_wp2_with fail
    refine Calls.mono HN.out ?_
    rintro e w1 ⟨rfl, hb⟩
    have HM2 := hideM (HM.out.went (HM.out.rd.below hb) (grownBy_of_below hb (some p)))
    have HT2 := hideM (Trod.below (p := p) hqw hb)
    clear hb HN HM
    go_wp2_with fail
    exact bodyPost_ret (v := .tuple #[.nilFunc, flt 2]) (by simp [results, Tryz.results168, go_sem, flt]) rfl (LPost.no HM2.out HT2.out)
end Go.Proofs.YtbddkkfakkedaaaGreatDoor
namespace Go.Proofs.YtbddkkfakkedaaaGreatDoor
open Go.RowKit
attribute [local go_sem ↓] Go.wp_at_zero Go.wp_at_succ
set_option linter.unusedVariables false

set_option maxRecDepth 100000 in
set_option maxHeartbeats 3200000 in
theorem distCount_any (q p hB : Nat) (zs : List Int) (rdy : Value) (c : LC) (w : World) (hM : LMem q p hB zs rdy w c) (hs : c.st = 1) (hz : Octets zs) (hzl : zs.length ≤ 65536) :
    Calls Tryz.prog 154 #[.pointer (some ⟨q, 0, none⟩)] w fun e w' => LPost q p hB zs rdy (distCountS zs c) e w w' := by
  have hqw := hM.lt
  have HM := hideM hM
  have HS := hideM hs
  clear hs
  unfold distCountS
  by_cases hn : c.i + 5 ≤ 8 * zs.length
  · rw [if_pos hn]
    have HN := hideM (number_yes q p hB zs c.i 5 w hM.c0 hM.rd hz hzl (by decide) hn)
    have hF := field_small (bnum zs) c.i 5 (by decide)
    generalize field (bnum zs) c.i 5 = F at *
    clear hM hn
    by_cases hx : (F : Int) + 1 > 30
    · rw [if_pos hx]
      have hxb : decide ((F : Int) + 1 > 30) = true := decide_eq_true hx
      go_enter Tryz.func154, Tryz.ntmps154
      go_wp2_with fail
      refine Calls.mono HN.out ?_
      rintro e w1 ⟨rfl, hR, hg⟩
      have hM1 := HM.out.went hR hg
      have HM2 := hideM ((hM1.set 3 (by unfold isNum; omega) ((F : Int) + 1)).at 2 (fun _ _ => by rw [show ({ c with i := c.i + 5, f := upd c.f 3 ((F : Int) + 1) } : LC).st = c.st from rfl, HS.out]; omega) (fun h => by omega))
      have HT2 := hideM ((Trod.num HM.out.ne hqw hg).trans (Trod.set 3 (.int .i64 ((F : Int) + 1)) (by decide)))
      have q3 := hM1.num 3 (by unfold isNum; omega)
      have f3 := hM1.free 3
      have hq1 := hM1.lt
      have HM3 := hideM (hM1.set 3 (by unfold isNum; omega) ((F : Int) + 1))
      clear hM1 hR hg HN HM
      go_wp2_with fail
      exact bodyPost_ret (v := .tuple #[.nilFunc, flt 3]) (by simp [results, Tryz.results154, go_sem, flt]) rfl (LPost.no HM3.out HT2.out)
    · rw [if_neg hx]
      have hxb : decide ((F : Int) + 1 > 30) = false := decide_eq_false hx
      go_enter Tryz.func154, Tryz.ntmps154
      go_wp2_with fail
      refine Calls.mono HN.out ?_
      rintro e w1 ⟨rfl, hR, hg⟩
      have hM1 := HM.out.went hR hg
      have HM2 := hideM ((hM1.set 3 (by unfold isNum; omega) ((F : Int) + 1)).at 2 (fun _ _ => by rw [show ({ c with i := c.i + 5, f := upd c.f 3 ((F : Int) + 1) } : LC).st = c.st from rfl, HS.out]; omega) (fun h => by omega))
      have HT2 := hideM ((Trod.num HM.out.ne hqw hg).trans (Trod.set 3 (.int .i64 ((F : Int) + 1)) (by decide)))
      have q3 := hM1.num 3 (by unfold isNum; omega)
      have f3 := hM1.free 3
      have hq1 := hM1.lt
      clear hM1 hR hg HN HM
      go_wp2_with fail
      exact bodyPost_ret (v := .tuple #[.func (Fn.func 168) #[.pointer (some ⟨q, 0, none⟩)] #[], .nilIface]) (by simp [results, Tryz.results154, go_sem]) rfl (LPost.ok rfl HM2.out HT2.out)
  · rw [if_neg hn]
    have HN := hideM (number_no q p hB zs c.i 5 w hM.c0 hM.rd hzl (by decide) hn)
    clear hM hn
    unfold flt at HN
    go_enter Tryz.func154, Tryz.ntmps154
    go_wp2_with fail
    refine Calls.mono HN.out ?_
    rintro e w1 ⟨rfl, hb⟩
    have HM2 := hideM (HM.out.went (HM.out.rd.below hb) (grownBy_of_below hb (some p)))
    have HT2 := hideM (Trod.below (p := p) hqw hb)
    clear hb HN HM
    go_wp2_with fail
    exact bodyPost_ret (v := .tuple #[.nilFunc, flt 2]) (by simp [results, Tryz.results154, go_sem, flt]) rfl (LPost.no HM2.out HT2.out)
end Go.Proofs.YtbddkkfakkedaaaGreatDoor
namespace Go.Proofs.YtbddkkfakkedaaaGreatDoor
open Go.RowKit
set_option linter.unusedVariables false

/-- What the package's variables hold. -/
structure Glob (w : World) : Prop where
  sz : 3 ≤ w.heap.size
  g0 : w.cell? ⟨1, 0, none⟩ = some (.iface 227 (.agg #[.pointer (some ⟨3, 111, none⟩)]))
  g1 : ∀ k, k < 19 → w.cell? ⟨2, k, none⟩ = some (.int .i64 (ord19 k : Nat))
theorem Glob.below {w w' : World} {B : Nat} (h : Glob w) (hb : Below B w w') (hB : 3 ≤ B) : Glob w' := by
  refine ⟨Nat.le_trans h.sz hb.size, ?_, fun k hk => ?_⟩
  · rw [hb.cell (p := ⟨1, 0, none⟩) (by show 1 < _; omega)]; exact h.g0
  · rw [hb.cell (p := ⟨2, k, none⟩) (by show 2 < _; omega)]; exact h.g1 k hk
end Go.Proofs.YtbddkkfakkedaaaGreatDoor
