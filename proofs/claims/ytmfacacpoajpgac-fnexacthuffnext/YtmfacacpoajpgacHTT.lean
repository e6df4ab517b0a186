import Derived.Test.YtmfacacpoajpgacHTS
namespace Go.Proofs.Ytmfacacpoajpgac
open Go.RowKit
attribute [local go_sem ↓] Go.wp_at_zero Go.wp_at_succ
set_option linter.unusedVariables false

/-- A table that answers for zs. -/
structure TabOf (zs : List Int) (w : World) (p : Nat) (S : Nat → Nat × Nat) (m : Nat) (L : Nat → Nat → Nat × Nat) : Prop where
  tab : Tab w p S m L
  l1 : ∀ i, (S i).1 ≤ 16
  l2 : ∀ i, (S i).1 = 16 → (S i).2 < m
  l3 : ∀ i, (S i).2 ≤ 320
  l4 : ∀ i j, (L i j).1 ≤ 15 ∧ (L i j).2 ≤ 320
  ans : ∀ b n k s l : Nat, n ≤ 64 → AnsT (look S L (b % 2 ^ n)) n k s l → AnsN zs b n k s l
theorem newTab_of (zs : List Int) (ao : Option Addr) (cap : Nat) (w : World) (hR : Reads w ao (nC zs) (code zs)) :
    Calls Try.prog 46 #[.slice ao (nC zs) cap] w fun e w' => ∃ p S m L, e = .returned (.pointer (some ⟨p, 0, none⟩)) ∧ w.heap.size ≤ p ∧ TabOf zs w' p S m L ∧ Below w.heap.size w w' := by
  by_cases hok : okC zs = true
  · obtain ⟨h1, h2, h3⟩ := okC_out hok
    have hnC : nC zs = zs.length := by simp [nC, hok]
    rw [hnC] at hR ⊢
    refine Calls.mono (newTab_any zs ao cap zs.length w hR rfl h2 h1 h3) ?_
    rintro e w' ⟨p, S, m, L, rfl, hp, hT, hI, hB⟩
    exact ⟨p, S, m, L, rfl, hp, ⟨hT, hI.l1, hI.l2, hI.l3, hI.l4, fun b n k s l hn ha => AnsN.yes hok hn (hI.ans h3 ha)⟩, hB⟩
  · have hnC : nC zs = 0 := by simp [nC, hok]
    rw [hnC]
    refine Calls.mono (newTab_any [] ao cap 0 w (fun h => by omega) rfl (by simp) (fun z hz => by cases hz) (by decide +kernel)) ?_
    rintro e w' ⟨p, S, m, L, rfl, hp, hT, hI, hB⟩
    refine ⟨p, S, m, L, rfl, hp, ⟨hT, hI.l1, hI.l2, hI.l3, hI.l4, fun b n k s l hn ha => ?_⟩, hB⟩
    rcases hI.fit (b % 2 ^ n) with ⟨t, h1, _⟩ | ⟨_, h1⟩
    · omega
    · rw [h1] at ha
      unfold AnsT at ha
      rw [if_pos rfl] at ha
      obtain ⟨rfl, rfl, rfl⟩ := ha
      exact AnsN.no (fun h => hok h.1)
theorem TabOf.next (zs : List Int) (p m b n : Nat) (S : Nat → Nat × Nat) (L : Nat → Nat → Nat × Nat) (w : World) (h : TabOf zs w p S m L) (hb : b < 2 ^ 64) (hn : n ≤ 64) :
    Calls Try.prog 47 #[.pointer (some ⟨p, 0, none⟩), .int .u64 b, .int .i64 n] w fun e w' => (∃ k s l : Nat, e = .returned (.agg #[.int .i64 k, .int .i64 s, .int .i64 l]) ∧ AnsN zs b n k s l) ∧ Below w.heap.size w w' := by
  refine Calls.mono (tnext_any p m b n 0 (b % 2 ^ n) S L w h.tab hb hn rfl h.l1 h.l2 h.l3 h.l4) ?_
  rintro e w' ⟨⟨k, s, l, rfl, ha⟩, hB⟩
  exact ⟨⟨k, s, l, rfl, h.ans b n k s l hn ha⟩, hB⟩

set_option maxRecDepth 100000 in
set_option maxHeartbeats 6400000 in
theorem inext_any (ao : Option Addr) (cap : Nat) (zs : List Int) (b : Nat) (n : Int) (w : World) (hr : Row64 w ao zs) (hl : zs.length ≤ 1048576) (hb : b < 2 ^ 64) (hn0 : -9223372036854775808 ≤ n) (hn1 : n ≤ 9223372036854775807) :
    Calls Try.prog 18 #[.slice ao zs.length cap, .int .u64 b, .int .i64 n] w fun e w' => (∃ k s l : Nat, e = .returned (.agg #[.int .i64 k, .int .i64 s, .int .i64 l]) ∧ AnsN zs b n k s l) ∧ Below w.heap.size w w' := by
  have hb0 : Below w.heap.size w (w.alloc (.cells #[.int .i64 0, .int .i64 0, .int .i64 0] 33)) := (Below.refl _ _).alloc (Nat.le_refl _) _
  have HR := hideH (hr.below hb0)
  have HB0 := hideH hb0
  have H30 := hideH (res3_new w 0 0 0 33)
  clear hr hb0
  go_enter Try.func18, Try.ntmps18
  by_cases h0 : n < 0
  · have HA : Hid (AnsN zs b n 0 0 0) := AnsN.no (fun h => by omega)
    have h0b : decide (n < 0) = true := decide_eq_true h0
    go_wp2_with fail
    exact bodyPost_ret (v := .agg #[.int .i64 0, .int .i64 0, .int .i64 0]) (by simp [results, Try.results18, go_sem]) rfl ⟨⟨0, 0, 0, rfl, HA.out⟩, HB0.out⟩
  · have h0b : decide (n < 0) = false := decide_eq_false h0
    by_cases h1 : 64 < n
    · have HA : Hid (AnsN zs b n 0 0 0) := AnsN.no (fun h => by omega)
      have h1b : decide (64 < n) = true := decide_eq_true h1
      go_wp2_with fail
      exact bodyPost_ret (v := .agg #[.int .i64 0, .int .i64 0, .int .i64 0]) (by simp [results, Try.results18, go_sem]) rfl ⟨⟨0, 0, 0, rfl, HA.out⟩, HB0.out⟩
    · have h1b : decide (64 < n) = false := decide_eq_false h1
      obtain ⟨m, rfl⟩ : ∃ m : Nat, n = (m : Int) := ⟨n.toNat, by omega⟩
      have hm : m ≤ 64 := by omega
      have HCC := hideH (icodes_any ao cap zs _ HR.out hl)
      go_wp2_with fail
      refine Calls.mono HCC.out ?_
      rintro e w2 ⟨⟨bo, bc, rfl, hRH⟩, hb2⟩
      have HNT := hideH (newTab_of zs bo bc w2 hRH.reads)
      have HB2 := hideH (HB0.out.trans (hb2.mono HB0.out.size))
      have H32 := hideH (H30.out.below hb2)
      clear HCC hRH HB0 H30 hb2
      go_wp2_with fail
      refine Calls.mono HNT.out ?_
      rintro e w3 ⟨p, S, q, L, rfl, hp, hT, hb3⟩
      have HNX := hideH (hT.next zs p q b m S L w3 hb hm)
      have HB3 := hideH (HB2.out.trans (hb3.mono HB2.out.size))
      have H33 := hideH (H32.out.below hb3)
      clear HNT hT HB2 H32 hb3
      go_wp2_with fail
      refine Calls.mono HNX.out ?_
      rintro e w4 ⟨⟨k, s, l, rfl, hans⟩, hb4⟩
      have HA := hideH hans
      have HB4 := hideH (HB3.out.trans (hb4.mono HB3.out.size))
      have H34 := hideH (H33.out.below hb4)
      obtain ⟨k3, k4⟩ := res3_set H34.out k s l
      obtain ⟨r0, r1, r2, f0, f1, f2⟩ := H34.out
      have hB2 := HB4.out.grown k4 HB4.out.size (by intro q e; simp at e; omega)
      obtain ⟨y0, y1, y2, _⟩ := k3
      clear k4 HNX HB3 H33 hans hb4 HB4
      go_wp2_with fail
      exact bodyPost_ret (v := .agg #[.int .i64 k, .int .i64 s, .int .i64 l]) (by simp [results, Try.results18, go_sem, y0, y1, y2]) rfl ⟨⟨k, s, l, rfl, HA.out⟩, hB2⟩

end Go.Proofs.Ytmfacacpoajpgac
