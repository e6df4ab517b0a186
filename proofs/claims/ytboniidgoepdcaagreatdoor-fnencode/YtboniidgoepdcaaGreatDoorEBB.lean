import Derived.BigRegion
import Derived.Test.YtboniidgoepdcaaGreatDoorEAX
import Derived.Test.YtboniidgoepdcaaGreatDoorEBA
namespace Go.Proofs.YtboniidgoepdcaaGreatDoor
open Go.RowKit
attribute [local go_sem ↓] Go.wp_at_zero Go.wp_at_succ
set_option linter.unusedVariables false

/-- Whether the symbol i has a code that the next fifteen bits, as a number, fall under. -/
def covB (ls : List Int) (X i : Nat) : Bool := decide (ls.getD i 0 = (ln ls i : Int)) && decide (1 ≤ ln ls i) && decide (ln ls i ≤ 15) && decide (bg ls i ≤ X) && decide (X < bg ls i + 2 ^ (15 - ln ls i))
theorem covB_iff {ls : List Int} {X i : Nat} (hi : i < ls.length) : covB ls X i = true ↔ cov ls i X := by
  unfold covB cov
  simp only [Bool.and_eq_true, decide_eq_true_eq]
  exact ⟨fun h => ⟨⟨hi, h.1.1.1.1, h.1.1.1.2, h.1.1.2⟩, h.1.2, h.2⟩, fun h => ⟨⟨⟨⟨h.1.is, h.1.pos⟩, h.1.most⟩, h.2.1⟩, h.2.2⟩⟩
/-- What the next bits say by the code of ls: kind, symbol, length. -/
def nx3 (ls : List Int) (b n : Nat) : Nat × Nat × Nat :=
  if okC ls = true ∧ n ≤ 64 then
    match (List.range ls.length).find? (covB ls (tr (b % 2 ^ n) 15)) with
    | some i => if ln ls i ≤ n then (1, i, ln ls i) else (2, 0, 0)
    | none => (0, 0, 0)
  else (0, 0, 0)
theorem nx3_some {ls : List Int} {b n i : Nat} (h1 : okC ls = true) (h2 : n ≤ 64) (h : cov ls i (tr (b % 2 ^ n) 15)) : nx3 ls b n = if ln ls i ≤ n then (1, i, ln ls i) else (2, 0, 0) := by
  unfold nx3
  rw [if_pos ⟨h1, h2⟩]
  cases hf : (List.range ls.length).find? (covB ls (tr (b % 2 ^ n) 15)) with
  | none =>
    rw [List.find?_eq_none] at hf
    exact absurd ((covB_iff h.1.lt).2 h) (hf i (List.mem_range.2 h.1.lt))
  | some j =>
    have hj := List.find?_some hf
    have hm := List.mem_range.1 (List.mem_of_find?_eq_some hf)
    have e := cov_one h ((covB_iff hm).1 hj)
    subst e
    rfl
theorem nx3_of {ls : List Int} {b n k s l : Nat} (h : AnsN ls b n k s l) : nx3 ls b n = (k, s, l) := by
  unfold AnsN at h
  by_cases hc : okC ls = true ∧ (0 : Int) ≤ (n : Int) ∧ (n : Int) ≤ 64
  · rw [if_pos hc, Int.toNat_natCast] at h
    have h64 : n ≤ 64 := by omega
    rcases h with ⟨i, h1, h2, rfl, rfl, rfl⟩ | ⟨i, h1, h2, rfl, rfl, rfl⟩ | ⟨h0, rfl, rfl, rfl⟩
    · rw [nx3_some hc.1 h64 h1, if_pos h2]
    · rw [nx3_some hc.1 h64 h1, if_neg (by omega)]
    · unfold nx3
      rw [if_pos ⟨hc.1, h64⟩]
      cases hf : (List.range ls.length).find? (covB ls (tr (b % 2 ^ n) 15)) with
      | none => rfl
      | some j =>
        have hj := List.find?_some hf
        have hm := List.mem_range.1 (List.mem_of_find?_eq_some hf)
        exact absurd ((covB_iff hm).1 hj) (h0 j)
  · rw [if_neg hc] at h
    unfold nx3
    rw [if_neg (fun x => hc ⟨x.1, by omega, by omega⟩), h.1, h.2.1, h.2.2]
theorem nx3_is (ls : List Int) (b n : Nat) : AnsN ls b n (nx3 ls b n).1 (nx3 ls b n).2.1 (nx3 ls b n).2.2 := by
  by_cases hc : okC ls = true ∧ n ≤ 64
  · refine AnsN.yes hc.1 hc.2 ?_
    by_cases hx : ∃ i, cov ls i (tr (b % 2 ^ n) 15)
    · obtain ⟨i, hi⟩ := hx
      rw [nx3_some hc.1 hc.2 hi]
      by_cases hn : ln ls i ≤ n
      · rw [if_pos hn]
        exact .inl ⟨i, hi, hn, rfl, rfl, rfl⟩
      · rw [if_neg hn]
        exact .inr (.inl ⟨i, hi, by omega, rfl, rfl, rfl⟩)
    · have h0 : ∀ i, ¬ cov ls i (tr (b % 2 ^ n) 15) := fun i hi => hx ⟨i, hi⟩
      rw [nx3_of (AnsN.yes hc.1 hc.2 (.inr (.inr ⟨h0, rfl, rfl, rfl⟩)))]
      exact .inr (.inr ⟨h0, rfl, rfl, rfl⟩)
  · have h : AnsN ls b n 0 0 0 := AnsN.no (fun x => hc ⟨x.1, by omega⟩)
    rw [nx3_of h]
    exact h
theorem AnsN.len {ls : List Int} {b n s l : Nat} (h : AnsN ls b n 1 s l) : l ≤ n ∧ s ≤ 320 := by
  unfold AnsN at h
  split at h
  · rename_i hc
    rcases h with ⟨i, h1, h2, _, h3, h4⟩ | ⟨i, _, _, h3, _⟩ | ⟨_, h3, _⟩
    · have h5 := (okC_out hc.1).2.1
      have h6 := h1.1.lt
      rw [Int.toNat_natCast] at h2
      omega
    · omega
    · omega
  · omega
theorem Rd.seen {w : World} {p hB : Nat} {zs : List Int} {i : Nat} (h : Rd w p hB zs i) : ∃ ao cap, Src w p (.slice ao (zs.length - i / 8) cap) ((i % 8 : Nat) : Int) (i : Int) := by
  obtain ⟨_, _, ao, cap, hs, _⟩ := h
  rw [List.length_drop] at hs
  exact ⟨ao, cap, hs⟩
theorem rd_peek (p hB : Nat) (zs : List Int) (i n : Nat) (w : World) (h : Rd w p hB zs i) (hz : Octets zs) (hzl : zs.length ≤ 65536) (n1 : n ≤ 32) (hn : i + n ≤ 8 * zs.length) :
    Calls Tryz.prog 78 #[.agg #[.pointer (some ⟨p, 0, none⟩)], .int .i64 n] w fun e w' => e = .returned (.int .u64 (field (bnum zs) i n : Nat)) ∧ Below w.heap.size w w' := by
  obtain ⟨hl, hne, ao, cap, hs, hr, hc, hb⟩ := h
  refine Calls.mono (peek_any p ao cap (zs.drop (i / 8)) ((i % 8 : Nat) : Int) (i : Int) n w hs hr (hz.drop _) hc (by rw [List.length_drop]; omega) (by omega) (by omega) n1 (by rw [List.length_drop]; omega)) ?_
  rintro e w' ⟨rfl, h2⟩
  refine ⟨?_, h2⟩
  rw [Int.toNat_natCast, field_drop zs hz i n hl]
theorem rd_pass (p hB : Nat) (zs : List Int) (i n : Nat) (w : World) (h : Rd w p hB zs i) (hzl : zs.length ≤ 65536) (hn : i + n ≤ 8 * zs.length) :
    Calls Tryz.prog 61 #[.pointer (some ⟨p, 0, none⟩), .int .i64 n] w fun e w' => e = .returned (.tuple #[]) ∧ Rd w' p hB zs (i + n) ∧ w.grownBy w' (some p) := by
  obtain ⟨hl, hne, ao, cap, hs, hr, hc, hb⟩ := h
  refine Calls.mono (pass_any p ao (zs.drop (i / 8)).length cap ((i % 8 : Nat) : Int) (i : Int) n w hs (by rw [List.length_drop]; omega) (by omega) (by omega) (by omega) (by omega) (by omega) (by rw [List.length_drop]; omega)) ?_
  rintro e w' ⟨rfl, hs', hg, _⟩
  exact ⟨rfl, Rd.moved hn hs' hr hc hne hb hg, hg⟩
/-- What symbol answers. -/
def SymPost (p hB : Nat) (zs : List Int) (i : Nat) (t : Nat × Nat × Nat) (e : Ending) (w w' : World) : Prop :=
  (t.1 = 1 → e = .returned (.tuple #[.int .i64 (t.2.1 : Nat), .nilIface]) ∧ Rd w' p hB zs (i + t.2.2) ∧ w.grownBy w' (some p)) ∧ (t.1 = 2 → e = .returned (.tuple #[.int .i64 0, flt 2]) ∧ Below w.heap.size w w') ∧ (t.1 = 0 → e = .returned (.tuple #[.int .i64 0, flt 3]) ∧ Below w.heap.size w w')
theorem AnsN.kinds {ls : List Int} {b n k s l : Nat} (h : AnsN ls b n k s l) : k = 0 ∨ k = 1 ∨ k = 2 := by
  unfold AnsN at h
  split at h
  · rcases h with ⟨i, _, _, h3, _⟩ | ⟨i, _, _, h3, _⟩ | ⟨_, h3, _⟩
    · exact .inr (.inl h3)
    · exact .inr (.inr h3)
    · exact .inl h3
  · exact .inl h.1
theorem TabOf.below {ls : List Int} {w w' : World} {t m : Nat} {S : Nat → Nat × Nat} {L : Nat → Nat → Nat × Nat} (h : TabOf ls w t S m L) (hb : Below w.heap.size w w') : TabOf ls w' t S m L := { h with tab := h.tab.below hb }
set_option maxRecDepth 100000 in
set_option maxHeartbeats 3200000 in
theorem symbol_any (q p hB t m : Nat) (S : Nat → Nat × Nat) (L : Nat → Nat → Nat × Nat) (ls zs : List Int) (i n : Nat) (w : World) (hm : w.cell? ⟨q, 0, none⟩ = some (.pointer (some ⟨p, 0, none⟩))) (hqp : q ≠ p) (h : Rd w p hB zs i) (hT : TabOf ls w t S m L) (hz : Octets zs) (hzl : zs.length ≤ 65536)
    (hn : Nat.min (8 * zs.length - i) 15 = n) :
    Calls Tryz.prog 66 #[.pointer (some ⟨q, 0, none⟩), .pointer (some ⟨t, 0, none⟩)] w fun e w' => SymPost p hB zs i (nx3 ls (field (bnum zs) i n) n) e w w' := by
  have hle := h.le
  have hn1 : n ≤ 15 := by rw [← hn]; exact Nat.min_le_right _ _
  have hn2 : n ≤ 8 * zs.length - i := by rw [← hn]; exact Nat.min_le_left _ _
  obtain ⟨ao, cap, s0, s1, s2, _⟩ := h.seen
  obtain ⟨Lh, hLh⟩ : ∃ x, zs.length - i / 8 = x := ⟨_, rfl⟩
  obtain ⟨A, hA⟩ : ∃ x, i % 8 = x := ⟨_, rfl⟩
  have hmin : min (8 * (Lh : Int) - (A : Int)) 15 = (n : Int) := by rw [← hn]; have e : Nat.min (8 * zs.length - i) 15 = min (8 * zs.length - i) 15 := rfl; omega
  have hLb : Lh ≤ 65536 := by omega
  have hAb : A ≤ 7 := by omega
  rw [hLh] at s0
  rw [hA] at s1
  have hF : field (bnum zs) i n < 2 ^ 64 := Nat.lt_of_lt_of_le (field_lt _ _ _) (Nat.pow_le_pow_right (by decide) (by omega))
  have HP := hideM (rd_peek p hB zs i n w.drew (h.below ((Below.refl _ _).drew)) hz hzl (by omega) (by omega))
  have hqw : q < w.heap.size := World.block_lt_of_cell? w _ hm
  have hpw : p < w.heap.size := World.block_lt_of_cell? w _ s0
  have HT := hideM hT
  have HR := hideM h
  have HZL : Hid (zs.length ≤ 65536 ∧ n ≤ 8 * zs.length - i ∧ i ≤ 8 * zs.length) := ⟨hzl, hn2, hle⟩
  generalize field (bnum zs) i n = F at *
  clear hT h hn hLh hA hle hn2 hz hzl
  go_enter Tryz.func66, Tryz.ntmps66
  go_upto_region 1 with fail
  go_region
  go_wp2_with fail
  refine Calls.mono HP.out ?_
  rintro e w1 ⟨rfl, hb1⟩
  have hB1 : Below w.heap.size w w1 := ((Below.refl _ _).drew).trans hb1
  have HB1 := hideM hB1
  have HN := hideM ((HT.out.below hB1).next ls t m F n S L w1 hF (by omega))
  clear hb1 hB1 HP
  go_wp2_with fail
  refine Calls.mono HN.out ?_
  rintro e w2 ⟨⟨k, s', l, rfl, ha⟩, hb2⟩
  have hB2 := HB1.out.trans (hb2.mono HB1.out.size)
  have HX := hideM (nx3_of ha)
  have hkk := ha.kinds
  have HLN : Hid (k = 1 → l ≤ n ∧ s' ≤ 320) := fun e => by subst e; exact ha.len
  have hba : Below w2.heap.size w2 (w2.alloc (.cells #[.int .i64 k, .int .i64 s', .int .i64 l] 157)) := (Below.refl _ _).alloc (Nat.le_refl _) _
  have hB3 := hB2.trans (hba.mono hB2.size)
  have HB3 := hideM hB3
  obtain ⟨x0, x1, x2, _⟩ := res3_new w2 (k : Int) (s' : Int) (l : Int) 157
  have m3 := (hB3.cell (p := ⟨q, 0, none⟩) hqw).trans hm
  have HR3 := hideM (HR.out.below hB3)
  have hs3 : w2.heap.size < (w2.alloc (.cells #[.int .i64 k, .int .i64 s', .int .i64 l] 157)).heap.size := by simp
  have hw2 : w.heap.size ≤ w2.heap.size := hB2.size
  obtain ⟨w3, hw3⟩ : ∃ w3, w2.alloc (.cells #[.int .i64 k, .int .i64 s', .int .i64 l] 157) = w3 := ⟨_, rfl⟩
  rw [hw3] at HB3 x0 x1 x2 m3 HR3 hs3
  have X0 := hideM x0
  have X1 := hideM x1
  have X2 := hideM x2
  clear ha hb2 hB2 hba hB3 HB1 HN s0 s1 s2 hmin hm HT HR x0 x1 x2
  go_upto_region 3 with fail
  have x0 := X0.out
  have x1 := X1.out
  have x2 := X2.out
  clear hw3 X0 X1 X2
  have hpx : w2.heap.size ≠ p := by omega
  rcases hkk with rfl | rfl | rfl
  · have HQ : Hid (SymPost p hB zs i (nx3 ls F n) (.returned (.tuple #[.int .i64 0, flt 3])) w w3) := by
      rw [HX.out]
      exact ⟨(fun e => absurd e (by decide : ¬ ((0:Nat) = 1))), (fun e => absurd e (by decide : ¬ ((0:Nat) = 2))), (fun _ => ⟨rfl, HB3.out⟩)⟩
    go_wp2_with fail
    exact bodyPost_ret (v := .tuple #[.int .i64 0, flt 3]) (by simp [results, Tryz.results66, go_sem, flt]) rfl HQ.out
  · obtain ⟨hl, hs'⟩ := HLN.out rfl
    have HPS := hideM (fun W (hb : Below w3.heap.size w3 W) => rd_pass p hB zs i l W (HR3.out.below hb) HZL.out.1 (by have := HZL.out; omega))
    go_upto_region 8 with fail
    go_region_held3 (fun w' => w'.cell? ⟨q, 0, none⟩ = some (.pointer (some ⟨p, 0, none⟩)) ∧ w'.cell? ⟨w2.heap.size, 2, none⟩ = some (.int .i64 l))
      (first | (refine ⟨?_, ?_⟩ <;> with_reducible assumption) | (go_keep; done))
      ((go_at_call 61; refine Calls.mono (HPS.out _ ((Below.refl _ _).drew)) ?_; rintro e w7 ⟨rfl, hR7, hg7⟩; have q0 := hg7.cell (show w3.drew.cell? ⟨q, 0, none⟩ = some (.pointer (some ⟨p, 0, none⟩)) from m3) (by simp; omega); have q1 := hg7.cell (show w3.drew.cell? ⟨w2.heap.size, 1, none⟩ = some (.int .i64 s') from x1) (by simp; omega); have q2 := hg7.cell (show w3.drew.cell? ⟨w2.heap.size, 2, none⟩ = some (.int .i64 l) from x2) (by simp; omega)))
    have hg8 : w.grownBy w7 (some p) := grownBy_trans (grownBy_of_below (HB3.out.drew) (some p)) hg7
    have HQ : Hid (SymPost p hB zs i (nx3 ls F n) (.returned (.tuple #[.int .i64 s', .nilIface])) w w7) := by
      rw [HX.out]
      exact ⟨(fun _ => ⟨rfl, hR7, hg8⟩), (fun e => absurd e (by decide : ¬ ((1:Nat) = 2))), (fun e => absurd e (by decide : ¬ ((1:Nat) = 0)))⟩
    have hsz7 := hg7.size
    clear hg7 hg8 hR7
    go_wp2_with fail
    exact bodyPost_ret (v := .tuple #[.int .i64 s', .nilIface]) (by simp [results, Tryz.results66, go_sem]) rfl HQ.out
  · have HQ : Hid (SymPost p hB zs i (nx3 ls F n) (.returned (.tuple #[.int .i64 0, flt 2])) w w3) := by
      rw [HX.out]
      exact ⟨(fun e => absurd e (by decide : ¬ ((2:Nat) = 1))), (fun _ => ⟨rfl, HB3.out⟩), (fun e => absurd e (by decide : ¬ ((2:Nat) = 0)))⟩
    go_wp2_with fail
    exact bodyPost_ret (v := .tuple #[.int .i64 0, flt 2]) (by simp [results, Tryz.results66, go_sem, flt]) rfl HQ.out
end Go.Proofs.YtboniidgoepdcaaGreatDoor
