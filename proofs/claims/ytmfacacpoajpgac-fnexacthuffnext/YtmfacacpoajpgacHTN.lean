import Derived.Test.YtmfacacpoajpgacHE
namespace Go.Proofs.Ytmfacacpoajpgac
open Go.RowKit
attribute [local go_sem ↓] Go.wp_at_zero Go.wp_at_succ
set_option linter.unusedVariables false

/-- What the table's look answers. -/
def AnsT (t : Nat × Nat) (n k s l : Nat) : Prop := if t.1 = 0 then k = 0 ∧ s = 0 ∧ l = 0 else if n < t.1 then k = 2 ∧ s = 0 ∧ l = 0 else k = 1 ∧ s = t.2 ∧ l = t.1
theorem mask_any (b n : Nat) (hb : b < 2 ^ 64) (hn : n ≤ 64) : bits .and .u64 (b : Int) (IntKind.u64.wrap (IntKind.u64.wrap (2 ^ n) - 1)) = ((b % 2 ^ n : Nat) : Int) := by
  have h0 : 0 < 2 ^ n := Nat.pos_of_ne_zero (by simp)
  have h1 : 2 ^ n ≤ 2 ^ 64 := Nat.pow_le_pow_right (by decide) hn
  have h2 : IntKind.u64.wrap (IntKind.u64.wrap (2 ^ n) - 1) = ((2 ^ n - 1 : Nat) : Int) := by
    have h3 : ((2 : Int) ^ n) = ((2 ^ n : Nat) : Int) := (Int.natCast_pow 2 n).symm
    rw [h3]
    generalize 2 ^ n = P at *
    rw [IntKind.wrap_u64, IntKind.wrap_u64]
    omega
  rw [h2, u64_and b (2 ^ n - 1) hb (by omega), Nat.and_two_pow_sub_one_eq_mod]
set_option maxRecDepth 100000 in
set_option maxHeartbeats 6400000 in
theorem tnext_any (p m b n M X : Nat) (S : Nat → Nat × Nat) (L : Nat → Nat → Nat × Nat) (w : World) (hT : Tab w p S m L) (hb : b < 2 ^ 64) (hn : n ≤ 64)
    (hX : b % 2 ^ n = X) (hl1 : ∀ i, (S i).1 ≤ 16) (hl2 : ∀ i, (S i).1 = 16 → (S i).2 < m) (hl3 : ∀ i, (S i).2 ≤ 320) (hl4 : ∀ i j, (L i j).1 ≤ 15 ∧ (L i j).2 ≤ 320) :
    Calls Try.prog 47 #[.pointer (some ⟨p, 0, none⟩), .int .u64 b, .int .i64 n] w fun e w' => (∃ k s l : Nat, e = .returned (.agg #[.int .i64 k, .int .i64 s, .int .i64 l]) ∧ AnsT (look S L X) n k s l) ∧ Below w.heap.size w w' := by
  have hb0 : Below w.heap.size w (w.alloc (.cells #[.int .i64 0, .int .i64 0, .int .i64 0] 33)) := (Below.refl _ _).alloc (Nat.le_refl _) _
  have HB0 := hideH hb0
  have H30 := hideH (res3_new w 0 0 0 33)
  have HT := hideH (hT.below hb0)
  have HX := hideH hX
  clear hT hb0 hX
  go_enter Try.func47, Try.ntmps47
  go_upto_region 2 with fail
  rw [mask_any b n hb hn, HX.out]
  have hX64 : X < 2 ^ 64 := by
    rw [← HX.out]
    exact Nat.lt_of_le_of_lt (Nat.mod_le _ _) hb
  obtain ⟨I, hI⟩ : ∃ I, X % 512 = I := ⟨_, rfl⟩
  have hI1 : I < 512 := by omega
  have hIi : ((X : Int) % 512) = (I : Int) := by omega
  have hIt : ((X : Int).tmod 512) = (I : Int) := by rw [Int.tmod_eq_emod_of_nonneg (by omega)]; exact hIi
  obtain ⟨E0, hE0⟩ : ∃ e, (S I).1 = e := ⟨_, rfl⟩
  obtain ⟨E1, hE1⟩ : ∃ e, (S I).2 = e := ⟨_, rfl⟩
  have c0 := HT.out.short.at0 I hI1
  have c1 := HT.out.short.at1 I hI1
  rw [hE0] at c0
  rw [hE1] at c1
  rw [Nat.zero_add] at c0 c1
  have hE16 : E0 ≤ 16 := hE0 ▸ hl1 I
  have hE320 : E1 ≤ 320 := hE1 ▸ hl3 I
  have HI := hideH hI
  have HE0 := hideH hE0
  have HE1 := hideH hE1
  have HL1 := hideH hl1
  have HL2 := hideH hl2
  have HL3 := hideH hl3
  have HL4 := hideH hl4
  have hpw := HT.out.short.lt
  clear hI hE0 hE1 hl1 hl2 hl3 hl4
  generalize w.alloc (.cells #[.int .i64 0, .int .i64 0, .int .i64 0] 33) = w1 at *
  have hbW : Below w1.heap.size w1 (w1.alloc (.cells #[.int .i8 E0, .int .i16 E1] 93)) := (Below.refl _ _).alloc (Nat.le_refl _) _
  by_cases h16 : E0 = 16
  · have b16 : ((E0 : Int) == 16) = true := by simp; omega
    obtain ⟨lo, c, xs, hcl, how, hen⟩ := (HT.out.below hbW).long
    obtain ⟨g, rfl, hpg, hEn⟩ := hen E1 (by have := HL2.out I (by rw [HE0.out]; exact h16); rw [HE1.out] at this; exact this)
    have hEm : E1 < m := by have := HL2.out I (by rw [HE0.out]; exact h16); rw [HE1.out] at this; exact this
    obtain ⟨J, hJ⟩ : ∃ J, X / 512 % 64 = J := ⟨_, rfl⟩
    have hJ1 : J < 64 := by omega
    obtain ⟨T0, hT0⟩ : ∃ e, (L E1 J).1 = e := ⟨_, rfl⟩
    obtain ⟨T1, hT1⟩ : ∃ e, (L E1 J).2 = e := ⟨_, rfl⟩
    have d0 := hEn.at0 J hJ1
    have d1 := hEn.at1 J hJ1
    rw [hT0] at d0
    rw [hT1] at d1
    have hgw := hEn.lt
    have hK1 : (X : Int) / 512 = ((X / 512 : Nat) : Int) := by omega
    obtain ⟨Q, hQ⟩ : ∃ Q, X / 512 = Q := ⟨_, rfl⟩
    rw [hQ] at hJ
    have hQi : (X : Int) / 512 = (Q : Int) := by omega
    have hQw : IntKind.u64.wrap (Q : Int) = (Q : Int) := by rw [IntKind.wrap_u64]; omega
    have hJi : (Q : Int) % 64 = (J : Int) := by omega
    have hJt : (Q : Int).tmod 64 = (J : Int) := by rw [Int.tmod_eq_emod_of_nonneg (by omega)]; exact hJi
    have HJ := hideH hJ
    have HQ := hideH hQ
    have HT0 := hideH hT0
    have HT1 := hideH hT1
    have H16 := hideH h16
    have hE0m : (0 : Int) ≤ (E1 : Int) := by omega
    have hE1m : (E1 : Int) < (m : Int) := by omega
    clear hEn hen how hK1 hJ hQ hT0 hT1 h16
    go_upto_region 4 with fail
    have HLK : Hid (look S L X = (T0, T1)) := by
      show _ = _
      unfold look
      rw [HI.out, HE0.out, if_pos H16.out, HE1.out, HQ.out, HJ.out, ← HT0.out, ← HT1.out]
    have hT15 : T0 ≤ 15 := by rw [← HT0.out]; exact (HL4.out _ _).1
    have hT320 : T1 ≤ 320 := by rw [← HT1.out]; exact (HL4.out _ _).2
    go_region
    clear d0 d1 hcl hgw
    have hbT : Below w1.heap.size w1 ((w1.alloc (.cells #[.int .i8 T0, .int .i16 T1] 93)).drew) := ((Below.refl _ _).alloc (Nat.le_refl _) _).drew
    have H32 := hideH (H30.out.below hbT)
    have HB2 := hideH (HB0.out.trans (hbT.mono HB0.out.size))
    have e0 : ((w1.alloc (.cells #[.int .i8 T0, .int .i16 T1] 93)).drew).cell? ⟨w1.heap.size, 0, none⟩ = some (.int .i8 T0) := by simp [go_sem]
    have e1 : ((w1.alloc (.cells #[.int .i8 T0, .int .i16 T1] 93)).drew).cell? ⟨w1.heap.size, 1, none⟩ = some (.int .i16 T1) := by simp [go_sem]
    clear hbT hbW
    generalize (w1.alloc (.cells #[.int .i8 T0, .int .i16 T1] 93)).drew = w2 at *
    by_cases hz : T0 = 0
    · have HA : Hid (AnsT (look S L X) n 0 0 0) := by
        unfold Hid AnsT
        rw [HLK.out, if_pos hz]
        exact ⟨rfl, rfl, rfl⟩
      have bz : ((T0 : Int) == 0) = true := by simp; omega
      clear hz
      obtain ⟨k3, k4⟩ := res3_set H32.out 0 0 0
      obtain ⟨r0, r1, r2, f0, f1, f2⟩ := H32.out
      have hB3 := HB2.out.grown k4 HB2.out.size (by intro q e; simp at e; omega)
      obtain ⟨y0, y1, y2, _⟩ := k3
      clear k4
      go_wp2_with fail
      exact bodyPost_ret (v := .agg #[.int .i64 0, .int .i64 0, .int .i64 0]) (by simp [results, Try.results47, go_sem, y0, y1, y2]) rfl ⟨⟨0, 0, 0, rfl, HA.out⟩, hB3⟩
    · have bz : ((T0 : Int) == 0) = false := by simp; omega
      by_cases hg : n < T0
      · have HA : Hid (AnsT (look S L X) n 2 0 0) := by
          unfold Hid AnsT
          rw [HLK.out, if_neg hz, if_pos hg]
          exact ⟨rfl, rfl, rfl⟩
        have bg : decide ((n : Int) < (T0 : Int)) = true := decide_eq_true (by omega)
        clear hz
        obtain ⟨k3, k4⟩ := res3_set H32.out 2 0 0
        obtain ⟨r0, r1, r2, f0, f1, f2⟩ := H32.out
        have hB3 := HB2.out.grown k4 HB2.out.size (by intro q e; simp at e; omega)
        obtain ⟨y0, y1, y2, _⟩ := k3
        clear k4
        go_wp2_with fail
        exact bodyPost_ret (v := .agg #[.int .i64 2, .int .i64 0, .int .i64 0]) (by simp [results, Try.results47, go_sem, y0, y1, y2]) rfl ⟨⟨2, 0, 0, rfl, HA.out⟩, hB3⟩
      · have HA : Hid (AnsT (look S L X) n 1 T1 T0) := by
          unfold Hid AnsT
          rw [HLK.out, if_neg hz, if_neg hg]
          exact ⟨rfl, rfl, rfl⟩
        have bg : decide ((n : Int) < (T0 : Int)) = false := decide_eq_false (by omega)
        clear hz
        obtain ⟨k3, k4⟩ := res3_set H32.out 1 T1 T0
        obtain ⟨r0, r1, r2, f0, f1, f2⟩ := H32.out
        have hB3 := HB2.out.grown k4 HB2.out.size (by intro q e; simp at e; omega)
        obtain ⟨y0, y1, y2, _⟩ := k3
        clear k4
        go_wp2_with fail
        exact bodyPost_ret (v := .agg #[.int .i64 1, .int .i64 T1, .int .i64 T0]) (by simp [results, Try.results47, go_sem, y0, y1, y2]) rfl ⟨⟨1, T1, T0, rfl, HA.out⟩, hB3⟩
  · have b16 : ((E0 : Int) == 16) = false := by simp; omega
    have HLK : Hid (look S L X = (E0, E1)) := by
      show _ = _
      unfold look
      rw [HI.out, HE0.out, if_neg h16, ← HE0.out, ← HE1.out]
    clear h16
    go_upto_region 5 with fail
    have hbT : Below w1.heap.size w1 (w1.alloc (.cells #[.int .i8 E0, .int .i16 E1] 93)) := (Below.refl _ _).alloc (Nat.le_refl _) _
    have H32 := hideH (H30.out.below hbT)
    have HB2 := hideH (HB0.out.trans (hbT.mono HB0.out.size))
    have e0 : (w1.alloc (.cells #[.int .i8 E0, .int .i16 E1] 93)).cell? ⟨w1.heap.size, 0, none⟩ = some (.int .i8 E0) := by simp [go_sem]
    have e1 : (w1.alloc (.cells #[.int .i8 E0, .int .i16 E1] 93)).cell? ⟨w1.heap.size, 1, none⟩ = some (.int .i16 E1) := by simp [go_sem]
    clear hbT hbW
    generalize w1.alloc (.cells #[.int .i8 E0, .int .i16 E1] 93) = w2 at *
    by_cases hz : E0 = 0
    · have HA : Hid (AnsT (look S L X) n 0 0 0) := by
        unfold Hid AnsT
        rw [HLK.out, if_pos hz]
        exact ⟨rfl, rfl, rfl⟩
      have bz : ((E0 : Int) == 0) = true := by simp; omega
      clear hz
      obtain ⟨k3, k4⟩ := res3_set H32.out 0 0 0
      obtain ⟨r0, r1, r2, f0, f1, f2⟩ := H32.out
      have hB3 := HB2.out.grown k4 HB2.out.size (by intro q e; simp at e; omega)
      obtain ⟨y0, y1, y2, _⟩ := k3
      clear k4
      go_wp2_with fail
      exact bodyPost_ret (v := .agg #[.int .i64 0, .int .i64 0, .int .i64 0]) (by simp [results, Try.results47, go_sem, y0, y1, y2]) rfl ⟨⟨0, 0, 0, rfl, HA.out⟩, hB3⟩
    · have bz : ((E0 : Int) == 0) = false := by simp; omega
      by_cases hg : n < E0
      · have HA : Hid (AnsT (look S L X) n 2 0 0) := by
          unfold Hid AnsT
          rw [HLK.out, if_neg hz, if_pos hg]
          exact ⟨rfl, rfl, rfl⟩
        have bg : decide ((n : Int) < (E0 : Int)) = true := decide_eq_true (by omega)
        clear hz
        obtain ⟨k3, k4⟩ := res3_set H32.out 2 0 0
        obtain ⟨r0, r1, r2, f0, f1, f2⟩ := H32.out
        have hB3 := HB2.out.grown k4 HB2.out.size (by intro q e; simp at e; omega)
        obtain ⟨y0, y1, y2, _⟩ := k3
        clear k4
        go_wp2_with fail
        exact bodyPost_ret (v := .agg #[.int .i64 2, .int .i64 0, .int .i64 0]) (by simp [results, Try.results47, go_sem, y0, y1, y2]) rfl ⟨⟨2, 0, 0, rfl, HA.out⟩, hB3⟩
      · have HA : Hid (AnsT (look S L X) n 1 E1 E0) := by
          unfold Hid AnsT
          rw [HLK.out, if_neg hz, if_neg hg]
          exact ⟨rfl, rfl, rfl⟩
        have bg : decide ((n : Int) < (E0 : Int)) = false := decide_eq_false (by omega)
        clear hz
        obtain ⟨k3, k4⟩ := res3_set H32.out 1 E1 E0
        obtain ⟨r0, r1, r2, f0, f1, f2⟩ := H32.out
        have hB3 := HB2.out.grown k4 HB2.out.size (by intro q e; simp at e; omega)
        obtain ⟨y0, y1, y2, _⟩ := k3
        clear k4
        go_wp2_with fail
        exact bodyPost_ret (v := .agg #[.int .i64 1, .int .i64 E1, .int .i64 E0]) (by simp [results, Try.results47, go_sem, y0, y1, y2]) rfl ⟨⟨1, E1, E0, rfl, HA.out⟩, hB3⟩

end Go.Proofs.Ytmfacacpoajpgac
