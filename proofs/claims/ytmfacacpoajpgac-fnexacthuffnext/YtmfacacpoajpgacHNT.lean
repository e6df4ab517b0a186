import Derived.Test.YtmfacacpoajpgacHNS
import Derived.Test.YtmfacacpoajpgacHCS
namespace Go.Proofs.Ytmfacacpoajpgac
open Go.RowKit
attribute [local go_sem ↓] Go.wp_at_zero Go.wp_at_succ
set_option linter.unusedVariables false

/-- What HuffNext answers. -/
def AnsN (zs : List Int) (b : Nat) (n : Int) (k s l : Nat) : Prop :=
  if okC zs = true ∧ 0 ≤ n ∧ n ≤ 64 then Ans zs b n.toNat k s l else k = 0 ∧ s = 0 ∧ l = 0
theorem AnsN.yes {zs : List Int} {b k s l : Nat} {n : Nat} (h1 : okC zs = true) (h2 : n ≤ 64) (h : Ans zs b n k s l) : AnsN zs b n k s l := by
  unfold AnsN
  rw [if_pos ⟨h1, by omega, by omega⟩]
  exact h
theorem AnsN.no {zs : List Int} {b : Nat} {n : Int} (h : ¬ (okC zs = true ∧ 0 ≤ n ∧ n ≤ 64)) : AnsN zs b n 0 0 0 := by
  unfold AnsN
  rw [if_neg h]
  exact ⟨rfl, rfl, rfl⟩
theorem AnsN.one {zs : List Int} {b : Nat} {n : Int} {k s l k' s' l' : Nat} (h : AnsN zs b n k s l) (h' : AnsN zs b n k' s' l') : k = k' ∧ s = s' ∧ l = l' := by
  unfold AnsN at h h'
  split at h
  · rename_i hc
    rw [if_pos hc] at h'
    exact h.one h'
  · rename_i hc
    rw [if_neg hc] at h'
    omega

set_option maxRecDepth 100000 in
set_option maxHeartbeats 6400000 in
theorem snext_any (ao : Option Addr) (cap : Nat) (zs : List Int) (b : Nat) (n : Int) (w : World) (hr : Row64 w ao zs) (hl : zs.length ≤ 1048576) (hb : b < 2 ^ 64) (hn0 : -9223372036854775808 ≤ n) (hn1 : n ≤ 9223372036854775807) :
    Calls Try.prog 17 #[.slice ao zs.length cap, .int .u64 b, .int .i64 n] w fun e w' => (∃ k s l : Nat, e = .returned (.agg #[.int .i64 k, .int .i64 s, .int .i64 l]) ∧ AnsN zs b n k s l) ∧ Below w.heap.size w w' := by
  have hb0 : Below w.heap.size w (w.alloc (.cells #[.int .i64 0, .int .i64 0, .int .i64 0] 33)) := (Below.refl _ _).alloc (Nat.le_refl _) _
  have HS := hideH (skind_any ao cap zs _ (hr.below hb0) hl)
  have HR := hideH hr
  have HB0 := hideH hb0
  have H30 := hideH (res3_new w 0 0 0 33)
  clear hr hb0
  go_enter Try.func17, Try.ntmps17
  go_wp2_with fail
  refine Calls.mono HS.out ?_
  rintro e w1 ⟨rfl, q, rfl⟩
  have HB1 := hideH (HB0.out.trans (below_drewN' _ _ q))
  have H31 := hideH (H30.out.below (below_drewN' _ _ q))
  generalize (w.alloc (.cells #[.int .i64 0, .int .i64 0, .int .i64 0] 33)).drewN q = w1 at *
  clear HS HB0 H30
  by_cases hok : okB zs = true
  · have hk0 : ¬ hk zs = 0 := by
      rw [hk, hok, if_pos rfl, hkind]
      repeat' split
      all_goals omega
    have hk0b : (hk zs == 0) = false := by simp [hk0]
    by_cases hk2 : hk zs = 2
    · have HA : Hid (AnsN zs b n 0 0 0) := AnsN.no (fun h => by simp [okC, hk2] at h)
      have hk2b : (hk zs == 2) = true := by simp [hk2]
      clear hk2 hk0
      obtain ⟨k3, k4⟩ := res3_set H31.out 0 0 0
      obtain ⟨r0, r1, r2, f0, f1, f2⟩ := H31.out
      have hB2 := HB1.out.grown k4 HB1.out.size (by intro q e; simp at e; omega)
      obtain ⟨y0, y1, y2, _⟩ := k3
      clear k4
      go_wp2_with fail
      exact bodyPost_ret (v := .agg #[.int .i64 0, .int .i64 0, .int .i64 0]) (by simp [results, Try.results17, go_sem, y0, y1, y2]) rfl ⟨⟨0, 0, 0, rfl, HA.out⟩, hB2⟩
    · have HOC : Hid (okC zs = true) := by show _ = _; simp [okC, hok, hk2]
      have hk2b : (hk zs == 2) = false := by simp [hk2]
      clear hk2 hk0 hok
      by_cases h0 : n < 0
      · have HA : Hid (AnsN zs b n 0 0 0) := AnsN.no (fun h => by omega)
        have h0b : decide (n < 0) = true := decide_eq_true h0
        obtain ⟨k3, k4⟩ := res3_set H31.out 0 0 0
        obtain ⟨r0, r1, r2, f0, f1, f2⟩ := H31.out
        have hB2 := HB1.out.grown k4 HB1.out.size (by intro q e; simp at e; omega)
        obtain ⟨y0, y1, y2, _⟩ := k3
        clear k4
        go_wp2_with fail
        exact bodyPost_ret (v := .agg #[.int .i64 0, .int .i64 0, .int .i64 0]) (by simp [results, Try.results17, go_sem, y0, y1, y2]) rfl ⟨⟨0, 0, 0, rfl, HA.out⟩, hB2⟩
      · have h0b : decide (n < 0) = false := decide_eq_false h0
        by_cases h1 : 64 < n
        · have HA : Hid (AnsN zs b n 0 0 0) := AnsN.no (fun h => by omega)
          have h1b : decide (64 < n) = true := decide_eq_true h1
          obtain ⟨k3, k4⟩ := res3_set H31.out 0 0 0
          obtain ⟨r0, r1, r2, f0, f1, f2⟩ := H31.out
          have hB2 := HB1.out.grown k4 HB1.out.size (by intro q e; simp at e; omega)
          obtain ⟨y0, y1, y2, _⟩ := k3
          clear k4
          go_wp2_with fail
          exact bodyPost_ret (v := .agg #[.int .i64 0, .int .i64 0, .int .i64 0]) (by simp [results, Try.results17, go_sem, y0, y1, y2]) rfl ⟨⟨0, 0, 0, rfl, HA.out⟩, hB2⟩
        · have h1b : decide (64 < n) = false := decide_eq_false h1
          obtain ⟨m, rfl⟩ : ∃ m : Nat, n = (m : Int) := ⟨n.toNat, by omega⟩
          have hm : m ≤ 64 := by omega
          have HCC := hideH (scodes_any ao cap zs w1 (HR.out.below (HB1.out)) hl)
          go_wp2_with fail
          refine Calls.mono HCC.out ?_
          rintro e w2 ⟨⟨bo, bc, rfl, hRH⟩, hb2⟩
          have hnC : nC zs = zs.length := by simp [nC, HOC.out]
          rw [hnC] at hRH ⊢
          have HNX := hideH (l3Next_any zs bo bc b m w2 hRH.reads HOC.out hb hm)
          have HB2 := hideH (HB1.out.trans (hb2.mono HB1.out.size))
          have H32 := hideH (H31.out.below hb2)
          clear HCC hRH hnC HB1 H31 hb2
          go_wp2_with fail
          refine Calls.mono HNX.out ?_
          rintro e w3 ⟨⟨k, s, l, rfl, hans⟩, hb3⟩
          have HA : Hid (AnsN zs b m k s l) := AnsN.yes HOC.out hm hans
          have HB3 := hideH (HB2.out.trans (hb3.mono HB2.out.size))
          have H33 := hideH (H32.out.below hb3)
          obtain ⟨k3, k4⟩ := res3_set H33.out k s l
          obtain ⟨r0, r1, r2, f0, f1, f2⟩ := H33.out
          have hB2 := HB3.out.grown k4 HB3.out.size (by intro q e; simp at e; omega)
          obtain ⟨y0, y1, y2, _⟩ := k3
          clear k4 HNX HB2 H32 hans hb3 HB3
          go_wp2_with fail
          exact bodyPost_ret (v := .agg #[.int .i64 k, .int .i64 s, .int .i64 l]) (by simp [results, Try.results17, go_sem, y0, y1, y2]) rfl ⟨⟨k, s, l, rfl, HA.out⟩, hB2⟩
  · have hokf : okB zs = false := by simpa using hok
    have HA : Hid (AnsN zs b n 0 0 0) := AnsN.no (fun h => by simp [okC, hokf] at h)
    have hk0b : (hk zs == 0) = true := by simp [hk, hokf]
    clear hok hokf
    obtain ⟨k3, k4⟩ := res3_set H31.out 0 0 0
    obtain ⟨r0, r1, r2, f0, f1, f2⟩ := H31.out
    have hB2 := HB1.out.grown k4 HB1.out.size (by intro q e; simp at e; omega)
    obtain ⟨y0, y1, y2, _⟩ := k3
    clear k4
    go_wp2_with fail
    exact bodyPost_ret (v := .agg #[.int .i64 0, .int .i64 0, .int .i64 0]) (by simp [results, Try.results17, go_sem, y0, y1, y2]) rfl ⟨⟨0, 0, 0, rfl, HA.out⟩, hB2⟩

end Go.Proofs.Ytmfacacpoajpgac
