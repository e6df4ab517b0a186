import Derived.Test.YtmfacacpoajpgabSrc
import Derived.Test.YtmfacacpoajpgabValidS
namespace Go.Proofs.Ytmfacacpoajpgab
open Go.RowKit
attribute [local go_sem ↓] Go.wp_at_zero Go.wp_at_succ

set_option maxHeartbeats 3200000 in
/-- spec.l2Has. -/
theorem l2Has_any (ao : Option Addr) (len cap : Nat) (a u n : Int) (w : World) (hl : len ≤ 1000000) (a0 : 0 ≤ a) (a7 : a ≤ 7) (u0 : 0 ≤ u) (u1 : u ≤ 34359738368) (n0 : 0 ≤ n) (n1 : n ≤ 8000000) :
    Calls Try.prog 47 #[.agg #[.slice ao len cap, .int .i64 a, .int .i64 u], .int .i64 n] w fun e w' => e = .returned (.bool (hasB len a u n)) ∧ Below w.heap.size w w' := by
  by_cases h : n ≤ 8 * (len : Int) - a
  · have HB : Hid (decide (u + n ≤ 34359738368) = hasB len a u n) := by
      show decide (u + n ≤ 34359738368) = hasB len a u n
      rw [← hasB_yes h, Bool.eq_iff_iff]
      simp
      omega
    have hd : decide (n ≤ 8 * (len : Int) - a) = true := decide_eq_true h
    go_enter Try.func47, Try.ntmps47
    go_wp2
    go_quiet ((go_at_call 62; exact Calls.quiet_of_same (most_any _)))
    go_wp2
    go_ret
    exact ⟨retb HB.out, ((Below.refl _ _).alloc (Nat.le_refl _) _).trans (below_drewN' _ _ _)⟩
  · have HB : Hid (false = hasB len a u n) := hasB_no h
    have hd : decide (n ≤ 8 * (len : Int) - a) = false := decide_eq_false h
    go_enter Try.func47, Try.ntmps47
    go_wp2
    go_quiet ((go_at_call 62; exact Calls.quiet_of_same (most_any _)))
    go_wp2
    go_ret
    exact ⟨retb HB.out, ((Below.refl _ _).alloc (Nat.le_refl _) _).trans (below_drewN' _ _ _)⟩

theorem src_alloc' {w : World} {p : Nat} {v : Value} {a u : Int} (h : Src w p v a u) (o : Obj) : Src (w.alloc o) p v a u :=
  h.grown (World.grownBy_alloc w o none) (by simp)
theorem own0 (W : World) (base e g : Nat) (hb : base ≤ W.heap.size) (hg : W.heap.size = g) : (W.alloc (.cells #[] e)).drew.ownsRow base e 1 (.slice (some ⟨g, 0, none⟩) 0 0) 0 [] := by
  subst hg
  exact World.ownsRow_lit W #[] 0 hb (by unfold maxLen; omega) rfl
theorem gcell {W w1 : World} {g : Nat} (h : W.grownBy w1 (some g)) : (∀ b o, b < W.heap.size → b ≠ g → w1.cell? ⟨b, o, none⟩ = W.cell? ⟨b, o, none⟩) ∧ (∀ b o, b < W.heap.size → b ≠ g → w1.frozen? ⟨b, o, none⟩ = W.frozen? ⟨b, o, none⟩) :=
  ⟨fun b o hb hne => World.cell?_of_block (w := W) (h.block b hb (by simpa using hne)), fun b o hb hne => World.frozen?_of_block (w := W) (h.block b hb (by simpa using hne))⟩

set_option maxRecDepth 100000 in
set_option maxHeartbeats 3200000 in
/-- spec.l2Copy. -/
theorem l2Copy_owns (ao : Option Addr) (cap : Nat) (zs : List Int) (a u : Int) (w : World) (hr : Row w ao zs) (hnil : ao = none → zs.length = 0 ∧ cap = 0) (hn : zs.length ≤ 140737488355328) :
    Calls Try.prog 41 #[.agg #[.slice ao zs.length cap, .int .i64 a, .int .i64 u]] w fun e w' => ResO w.heap.size w' e zs a u ∧ Below w.heap.size w w' := by
  obtain ⟨i0, hi, hz0, hz1, hz2⟩ := info_parts Try.info_u8s
  have hr2 : Row ((w.alloc (.cells #[.slice ao zs.length cap, .int .i64 a, .int .i64 u] 26)).alloc (.cells #[.slice none 0 0, .int .i64 0, .int .i64 0] 26)) ao zs := hr.below (((Below.refl _ _).alloc (Nat.le_refl _) _).alloc (by simp) _)
  go_enter Try.func41, Try.ntmps41
  go_wp2
  go_region_held3 (fun w' => w'.cell? ⟨w.heap.size, 0, none⟩ = some (.slice ao zs.length cap) ∧ w'.cell? ⟨w.heap.size, 1, none⟩ = some (.int .i64 a) ∧ w'.cell? ⟨w.heap.size, 2, none⟩ = some (.int .i64 u))
    (first | (go_keep; done) | (simp [*]; done) | (simp [*, go_sem]; done))
    ((refine step_append_row _ (by rfl) _ _ _ (by rfl) (w.heap.size + 2) 5 i0 (.int .u8 0) 1 Try.underlying22 hi hz0 hz1 hz2 rfl (.slice (some ⟨w.heap.size + 2, 0, none⟩) 0 0) 0 [] (by rfl) (own0 _ _ _ _ (by simp) (by simp)) ao cap zs (by rfl) (hr2.below ((Below.refl _ _).alloc (Nat.le_refl _) _).drew) hnil (by unfold maxLen; omega) (by omega) (by simp) ?_; intro v' w1 hown hgrow hat; obtain ⟨ao', cap', e', hm⟩ := OwnsB.of hown; subst e'; obtain ⟨hc, hf⟩ := gcell hgrow))
  have hres0 := (src_alloc' (src_new (w.alloc (.cells #[.slice ao zs.length cap, .int .i64 a, .int .i64 u] 26)) (.slice none 0 0) 0 0 26) (.cells #[] 5)).drewN 1
  have hres1 := hres0.grown hgrow (by simp [Value.ownBlock])
  simp only [World.size_alloc] at hres1
  have hz1 : w.heap.size + 2 < w1.heap.size := by have := hgrow.size; simp at this; omega
  have hbl1 : Below w.heap.size w w1 := ((((Below.refl w.heap.size w).alloc (Nat.le_refl _) _).alloc (by simp) _).alloc (by simp; omega) _).drew.grown hgrow (by simp; omega) (by intro k e; simp [Value.ownBlock] at e; omega)
  obtain ⟨k1, k2, k3⟩ := src_set hres1 (.slice ao' zs.length cap') a u
  have hm5 := hm.grown k2 (by intro k e; simp at e; subst e; exact hm.mine.far (by omega))
  have hbl5 := hbl1.grown k2 (by omega) (by intro k e; simp at e; omega)
  obtain ⟨x0, x1, x2, _, _, _⟩ := k1
  clear hc hf hown hat hgrow hres0 hres1 hbl1 k2 k3 hm hr hr2
  go_wp2_with fail
  exact bodyPost_ret (v := .agg #[.slice ao' zs.length cap', .int .i64 a, .int .i64 u]) (by simp [results, Try.results41, go_sem, x0, x1, x2]) rfl ⟨⟨ao', cap', rfl, hm5.mono (by omega)⟩, hbl5⟩

theorem l2Copy_any (ao : Option Addr) (cap : Nat) (zs : List Int) (a u : Int) (w : World) (hr : Row w ao zs) (hnil : ao = none → zs.length = 0 ∧ cap = 0) (hn : zs.length ≤ 140737488355328) :
    Calls Try.prog 41 #[.agg #[.slice ao zs.length cap, .int .i64 a, .int .i64 u]] w fun e w' => ResB w.heap.size w' e zs a u ∧ Below w.heap.size w w' :=
  (l2Copy_owns ao cap zs a u w hr hnil hn).mono fun _ _ ⟨h1, h2⟩ => ⟨h1.res, h2⟩

set_option maxRecDepth 100000 in
set_option maxHeartbeats 3200000 in
/-- spec.l2Skip. -/
theorem l2Skip_any (ao : Option Addr) (cap : Nat) (zs : List Int) (a u n : Int) (w : World) (hr : Row w ao zs) (hfit : zs.length ≤ cap) (hnil : ao = none → zs.length = 0 ∧ cap = 0) (hn : zs.length ≤ 1000000) (a0 : 0 ≤ a) (a7 : a ≤ 7) (u0 : 0 ≤ u) (u1 : u ≤ 34359738368) (n0 : 0 ≤ n) (n1 : a + n ≤ 8 * (zs.length : Int)) :
    Calls Try.prog 49 #[.agg #[.slice ao zs.length cap, .int .i64 a, .int .i64 u], .int .i64 n] w fun e w' => ResB w.heap.size w' e (zs.drop ((a + n) / 8).toNat) ((a + n) % 8) (u + n) ∧ Below w.heap.size w w' := by
  obtain ⟨i0, hi, hz0, hz1, hz2⟩ := info_parts Try.info_u8s
  have hr2 : Row ((w.alloc (.cells #[.slice ao zs.length cap, .int .i64 a, .int .i64 u] 26)).alloc (.cells #[.slice none 0 0, .int .i64 0, .int .i64 0] 26)) ao zs := hr.below (((Below.refl _ _).alloc (Nat.le_refl _) _).alloc (by simp) _)
  obtain ⟨k, hk⟩ : ∃ k : Nat, (a + n) / 8 = (k : Int) := ⟨((a + n) / 8).toNat, by omega⟩
  have hkl : (k : Int) ≤ (zs.length : Int) := by omega
  have hk0 : (0 : Int) ≤ (k : Int) := by omega
  have hr3 := hr2.cut (k := k) hfit
  have hcn : cutAt ao cap k = none → (zs.drop k).length = 0 ∧ cap - k = 0 := by
    intro e
    unfold cutAt at e
    rw [List.length_drop]
    split at e
    · omega
    · cases ao with
      | none => have := hnil rfl; omega
      | some x => simp at e
  rw [hk, Int.toNat_natCast]
  have hw1 : IntKind.i64.wrap ((a + n).tdiv 8) = (k : Int) := by rw [Int.tdiv_eq_ediv_of_nonneg (by omega), hk, IntKind.wrap_i64]; omega
  have hw2 : (a + n).tmod 8 = (a + n) % 8 := Int.tmod_eq_emod_of_nonneg (by omega)
  have hw3 : IntKind.i64.wrap (u + n) = u + n := by rw [IntKind.wrap_i64]; omega
  clear hk
  have hzl : zs.length - k = (zs.drop k).length := by rw [List.length_drop]
  generalize zs.drop k = zd at *
  by_cases hck : cap = k
  · have he : cutAt ao cap k = ao := if_pos hck
    rw [he] at hr3 hcn
    clear he
    subst hck
    rw [Nat.sub_self] at hcn
    have HCN : Hid (ao = none → zd.length = 0 ∧ 0 = 0) := hcn
    clear hcn
    go_enter Try.func49, Try.ntmps49
    go_wp2
    go_region_held3 (fun w' => w'.cell? ⟨w.heap.size, 0, none⟩ = some (.slice ao zs.length cap) ∧ w'.cell? ⟨w.heap.size, 1, none⟩ = some (.int .i64 a) ∧ w'.cell? ⟨w.heap.size, 2, none⟩ = some (.int .i64 u))
      (first | (go_keep; done) | (simp [*]; done) | (simp [*, go_sem]; done))
      ((refine step_append_row _ (by rfl) _ _ _ (by rfl) (w.heap.size + 2) 5 i0 (.int .u8 0) 1 Try.underlying22 hi hz0 hz1 hz2 rfl (.slice (some ⟨w.heap.size + 2, 0, none⟩) 0 0) 0 [] (by rfl) (own0 _ _ _ _ (by simp) (by simp)) ao 0 zd (by first | rfl | (rw [hzl]; rfl)) (hr3.below ((Below.refl _ _).alloc (Nat.le_refl _) _).drew) (fun e => ⟨(HCN.out e).1, rfl⟩) (by unfold maxLen; omega) (by omega) (by simp) ?_; intro v' w1 hown hgrow hat; obtain ⟨ao', cap', e', hm⟩ := Mine.of_owns hown; subst e'; obtain ⟨hc, hf⟩ := gcell hgrow))
    have hres0 := (src_alloc' (src_new (w.alloc (.cells #[.slice ao zs.length cap, .int .i64 a, .int .i64 u] 26)) (.slice none 0 0) 0 0 26) (.cells #[] 5)).drewN 1
    have hres1 := hres0.grown hgrow (by simp [Value.ownBlock])
    simp only [World.size_alloc] at hres1
    have hz1 : w.heap.size + 2 < w1.heap.size := by have := hgrow.size; simp at this; omega
    have hbl1 : Below w.heap.size w w1 := ((((Below.refl w.heap.size w).alloc (Nat.le_refl _) _).alloc (by simp) _).alloc (by simp; omega) _).drew.grown hgrow (by simp; omega) (by intro k e; simp [Value.ownBlock] at e; omega)
    obtain ⟨k1, k2, k3⟩ := src_set hres1 (.slice ao' zd.length cap') ((a + n) % 8) (u + n)
    have hm5 := hm.grown k2 (by intro k e; simp at e; subst e; exact hm.far (by omega))
    have hbl5 := hbl1.grown k2 (by omega) (by intro k e; simp at e; omega)
    obtain ⟨x0, x1, x2, _, _, _⟩ := k1
    clear hc hf hown hat hgrow hres0 hres1 hbl1 k2 k3 hm hr hr2 hr3
    go_wp2_with fail
    exact bodyPost_ret (v := .agg #[.slice ao' zd.length cap', .int .i64 ((a + n) % 8), .int .i64 (u + n)]) (by simp [results, Try.results49, go_sem, x0, x1, x2]) rfl ⟨⟨ao', cap', rfl, hm5.mono (by omega)⟩, hbl5⟩
  · have he : cutAt ao cap k = ao.map (·.add k) := if_neg hck
    rw [he] at hr3 hcn
    clear he
    go_enter Try.func49, Try.ntmps49
    go_wp2
    go_region_held3 (fun w' => w'.cell? ⟨w.heap.size, 0, none⟩ = some (.slice ao zs.length cap) ∧ w'.cell? ⟨w.heap.size, 1, none⟩ = some (.int .i64 a) ∧ w'.cell? ⟨w.heap.size, 2, none⟩ = some (.int .i64 u))
      (first | (go_keep; done) | (simp [*]; done) | (simp [*, go_sem]; done))
      ((refine step_append_row _ (by rfl) _ _ _ (by rfl) (w.heap.size + 2) 5 i0 (.int .u8 0) 1 Try.underlying22 hi hz0 hz1 hz2 rfl (.slice (some ⟨w.heap.size + 2, 0, none⟩) 0 0) 0 [] (by rfl) (own0 _ _ _ _ (by simp) (by simp)) (ao.map (·.add k)) (cap - k) zd (by first | rfl | (rw [hzl]; rfl)) (hr3.below ((Below.refl _ _).alloc (Nat.le_refl _) _).drew) hcn (by unfold maxLen; omega) (by omega) (by simp) ?_; intro v' w1 hown hgrow hat; obtain ⟨ao', cap', e', hm⟩ := Mine.of_owns hown; subst e'; obtain ⟨hc, hf⟩ := gcell hgrow))
    have hres0 := (src_alloc' (src_new (w.alloc (.cells #[.slice ao zs.length cap, .int .i64 a, .int .i64 u] 26)) (.slice none 0 0) 0 0 26) (.cells #[] 5)).drewN 1
    have hres1 := hres0.grown hgrow (by simp [Value.ownBlock])
    simp only [World.size_alloc] at hres1
    have hz1 : w.heap.size + 2 < w1.heap.size := by have := hgrow.size; simp at this; omega
    have hbl1 : Below w.heap.size w w1 := ((((Below.refl w.heap.size w).alloc (Nat.le_refl _) _).alloc (by simp) _).alloc (by simp; omega) _).drew.grown hgrow (by simp; omega) (by intro k e; simp [Value.ownBlock] at e; omega)
    obtain ⟨k1, k2, k3⟩ := src_set hres1 (.slice ao' zd.length cap') ((a + n) % 8) (u + n)
    have hm5 := hm.grown k2 (by intro k e; simp at e; subst e; exact hm.far (by omega))
    have hbl5 := hbl1.grown k2 (by omega) (by intro k e; simp at e; omega)
    obtain ⟨x0, x1, x2, _, _, _⟩ := k1
    clear hc hf hown hat hgrow hres0 hres1 hbl1 k2 k3 hm hr hr2 hr3 hcn
    go_wp2_with fail
    exact bodyPost_ret (v := .agg #[.slice ao' zd.length cap', .int .i64 ((a + n) % 8), .int .i64 (u + n)]) (by simp [results, Try.results49, go_sem, x0, x1, x2]) rfl ⟨⟨ao', cap', rfl, hm5.mono (by omega)⟩, hbl5⟩
end Go.Proofs.Ytmfacacpoajpgab
