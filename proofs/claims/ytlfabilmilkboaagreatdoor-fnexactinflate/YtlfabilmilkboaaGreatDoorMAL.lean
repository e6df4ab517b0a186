import Derived.Test.YtlfabilmilkboaaGreatDoorMAK
namespace Go.Proofs.YtlfabilmilkboaaGreatDoor
open Go.RowKit
attribute [local go_sem ↓] Go.wp_at_zero Go.wp_at_succ
set_option linter.unusedVariables false

/-- What the table's look answers. -/
def AnsT (t : Nat × Nat) (n k s l : Nat) : Prop := if t.1 = 0 then k = 0 ∧ s = 0 ∧ l = 0 else if n < t.1 then k = 2 ∧ s = 0 ∧ l = 0 else k = 1 ∧ s = t.2 ∧ l = t.1
theorem mask_any (b n : Nat) (hb : b < 2 ^ 64) (hn : n ≤ 64) : bits .and .u64 (b : Int) (IntKind.u64.wrap (IntKind.u64.wrap (2 ^ n) - 1)) = ((b % 2 ^ n : Nat) : Int) := by
  have h0 : 0 < 2 ^ n := Nat.pos_of_ne_zero (by simp)
  have h1 : 2 ^ n ≤ 2 ^ 64 := Nat.pow_le_pow_right (by decide) hn
  have h2 : IntKind.u64.wrap (IntKind.u64.wrap (2 ^ n) - 1) = ((2 ^ n - 1 : Nat) : Int) := by
    have h3 : ((2 : Int) ^ n) = ((2 ^ n : Nat) : Int) := (Int.natCast_pow 2 n).symm
    rw [h3]
    generalize 2 ^ n = P at *
    rw [IntKind.wrap_u64, IntKind.wrap_u64]
    omega
  rw [h2, u64_and b (2 ^ n - 1) hb (by omega), Nat.and_two_pow_sub_one_eq_mod]
set_option maxRecDepth 100000 in
set_option maxHeartbeats 6400000 in
theorem tnext_any (p m b n M X : Nat) (S : Nat → Nat × Nat) (L : Nat → Nat → Nat × Nat) (w : World) (hT : Tab w p S m L) (hb : b < 2 ^ 64) (hn : n ≤ 64)
    (hX : b % 2 ^ n = X) (hl1 : ∀ i, (S i).1 ≤ 16) (hl2 : ∀ i, (S i).1 = 16 → (S i).2 < m) (hl3 : ∀ i, (S i).2 ≤ 320) (hl4 : ∀ i j, (L i j).1 ≤ 15 ∧ (L i j).2 ≤ 320) :
    Calls Tryz.prog 88 #[.pointer (some ⟨p, 0, none⟩), .int .u64 b, .int .i64 n] w fun e w' => (∃ k s l : Nat, e = .returned (.agg #[.int .i64 k, .int .i64 s, .int .i64 l]) ∧ AnsT (look S L X) n k s l) ∧ Below w.heap.size w w' := by
  have hb0 : Below w.heap.size w (w.alloc (.cells #[.int .i64 0, .int .i64 0, .int .i64 0] 112)) := (Below.refl _ _).alloc (Nat.le_refl _) _
  have HB0 := hideH hb0
  have H30 := hideH (res3_new w 0 0 0 112)
  have HT := hideH (hT.below hb0)
  have HX := hideH hX
  clear hT hb0 hX
  go_enter Tryz.func88, Tryz.ntmps88
  go_upto_region 2 with fail
  rw [mask_any b n hb hn, HX.out]
  have hX64 : X < 2 ^ 64 := by
    rw [← HX.out]
    exact Nat.lt_of_le_of_lt (Nat.mod_le _ _) hb
  obtain ⟨I, hI⟩ : ∃ I, X % 512 = I := ⟨_, rfl⟩
  have hI1 : I < 512 := by omega
  have hIi : ((X : Int) % 512) = (I : Int) := by omega
  have hIt : ((X : Int).tmod 512) = (I : Int) := by rw [Int.tmod_eq_emod_of_nonneg (by omega)]; exact hIi
  obtain ⟨E0, hE0⟩ : ∃ e, (S I).1 = e := ⟨_, rfl⟩
  obtain ⟨E1, hE1⟩ : ∃ e, (S I).2 = e := ⟨_, rfl⟩
  have c0 := HT.out.short.at0 I hI1
  have c1 := HT.out.short.at1 I hI1
  rw [hE0] at c0
  rw [hE1] at c1
  rw [Nat.zero_add] at c0 c1
  have hE16 : E0 ≤ 16 := hE0 ▸ hl1 I
  have hE320 : E1 ≤ 320 := hE1 ▸ hl3 I
  have HI := hideH hI
  have HE0 := hideH hE0
  have HE1 := hideH hE1
  have HL1 := hideH hl1
  have HL2 := hideH hl2
  have HL3 := hideH hl3
  have HL4 := hideH hl4
  have hpw := HT.out.short.lt
  clear hI hE0 hE1 hl1 hl2 hl3 hl4
  generalize w.alloc (.cells #[.int .i64 0, .int .i64 0, .int .i64 0] 112) = w1 at *
  have hbW : Below w1.heap.size w1 (w1.alloc (.cells #[.int .i8 E0, .int .i16 E1] 146)) := (Below.refl _ _).alloc (Nat.le_refl _) _
  by_cases h16 : E0 = 16
  · have b16 : ((E0 : Int) == 16) = true := by simp; omega
    obtain ⟨lo, c, xs, hcl, how, hen⟩ := (HT.out.below hbW).long
    obtain ⟨g, rfl, hpg, hEn⟩ := hen E1 (by have := HL2.out I (by rw [HE0.out]; exact h16); rw [HE1.out] at this; exact this)
    have hEm : E1 < m := by have := HL2.out I (by rw [HE0.out]; exact h16); rw [HE1.out] at this; exact this
    obtain ⟨J, hJ⟩ : ∃ J, X / 512 % 64 = J := ⟨_, rfl⟩
    have hJ1 : J < 64 := by omega
    obtain ⟨T0, hT0⟩ : ∃ e, (L E1 J).1 = e := ⟨_, rfl⟩
    obtain ⟨T1, hT1⟩ : ∃ e, (L E1 J).2 = e := ⟨_, rfl⟩
    have d0 := hEn.at0 J hJ1
    have d1 := hEn.at1 J hJ1
    rw [hT0] at d0
    rw [hT1] at d1
    have hgw := hEn.lt
    have hK1 : (X : Int) / 512 = ((X / 512 : Nat) : Int) := by omega
    obtain ⟨Q, hQ⟩ : ∃ Q, X / 512 = Q := ⟨_, rfl⟩
    rw [hQ] at hJ
    have hQi : (X : Int) / 512 = (Q : Int) := by omega
    have hQw : IntKind.u64.wrap (Q : Int) = (Q : Int) := by rw [IntKind.wrap_u64]; omega
    have hJi : (Q : Int) % 64 = (J : Int) := by omega
    have hJt : (Q : Int).tmod 64 = (J : Int) := by rw [Int.tmod_eq_emod_of_nonneg (by omega)]; exact hJi
    have HJ := hideH hJ
    have HQ := hideH hQ
    have HT0 := hideH hT0
    have HT1 := hideH hT1
    have H16 := hideH h16
    have hE0m : (0 : Int) ≤ (E1 : Int) := by omega
    have hE1m : (E1 : Int) < (m : Int) := by omega
    clear hEn hen how hK1 hJ hQ hT0 hT1 h16
    go_upto_region 4 with fail
    have HLK : Hid (look S L X = (T0, T1)) := by
      show _ = _
      unfold look
      rw [HI.out, HE0.out, if_pos H16.out, HE1.out, HQ.out, HJ.out, ← HT0.out, ← HT1.out]
    have hT15 : T0 ≤ 15 := by rw [← HT0.out]; exact (HL4.out _ _).1
    have hT320 : T1 ≤ 320 := by rw [← HT1.out]; exact (HL4.out _ _).2
    go_region
    clear d0 d1 hcl hgw
    have hbT : Below w1.heap.size w1 ((w1.alloc (.cells #[.int .i8 T0, .int .i16 T1] 146)).drew) := ((Below.refl _ _).alloc (Nat.le_refl _) _).drew
    have H32 := hideH (H30.out.below hbT)
    have HB2 := hideH (HB0.out.trans (hbT.mono HB0.out.size))
    have e0 : ((w1.alloc (.cells #[.int .i8 T0, .int .i16 T1] 146)).drew).cell? ⟨w1.heap.size, 0, none⟩ = some (.int .i8 T0) := by simp [go_sem]
    have e1 : ((w1.alloc (.cells #[.int .i8 T0, .int .i16 T1] 146)).drew).cell? ⟨w1.heap.size, 1, none⟩ = some (.int .i16 T1) := by simp [go_sem]
    clear hbT hbW
    generalize (w1.alloc (.cells #[.int .i8 T0, .int .i16 T1] 146)).drew = w2 at *
    by_cases hz : T0 = 0
    · have HA : Hid (AnsT (look S L X) n 0 0 0) := by
        unfold Hid AnsT
        rw [HLK.out, if_pos hz]
        exact ⟨rfl, rfl, rfl⟩
      have bz : ((T0 : Int) == 0) = true := by simp; omega
      clear hz
      obtain ⟨k3, k4⟩ := res3_set H32.out 0 0 0
      obtain ⟨r0, r1, r2, f0, f1, f2⟩ := H32.out
      have hB3 := HB2.out.grown k4 HB2.out.size (by intro q e; simp at e; omega)
      obtain ⟨y0, y1, y2, _⟩ := k3
      clear k4
      go_wp2_with fail
      exact bodyPost_ret (v := .agg #[.int .i64 0, .int .i64 0, .int .i64 0]) (by simp [results, Tryz.results88, go_sem, y0, y1, y2]) rfl ⟨⟨0, 0, 0, rfl, HA.out⟩, hB3⟩
    · have bz : ((T0 : Int) == 0) = false := by simp; omega
      by_cases hg : n < T0
      · have HA : Hid (AnsT (look S L X) n 2 0 0) := by
          unfold Hid AnsT
          rw [HLK.out, if_neg hz, if_pos hg]
          exact ⟨rfl, rfl, rfl⟩
        have bg : decide ((n : Int) < (T0 : Int)) = true := decide_eq_true (by omega)
        clear hz
        obtain ⟨k3, k4⟩ := res3_set H32.out 2 0 0
        obtain ⟨r0, r1, r2, f0, f1, f2⟩ := H32.out
        have hB3 := HB2.out.grown k4 HB2.out.size (by intro q e; simp at e; omega)
        obtain ⟨y0, y1, y2, _⟩ := k3
        clear k4
        go_wp2_with fail
        exact bodyPost_ret (v := .agg #[.int .i64 2, .int .i64 0, .int .i64 0]) (by simp [results, Tryz.results88, go_sem, y0, y1, y2]) rfl ⟨⟨2, 0, 0, rfl, HA.out⟩, hB3⟩
      · have HA : Hid (AnsT (look S L X) n 1 T1 T0) := by
          unfold Hid AnsT
          rw [HLK.out, if_neg hz, if_neg hg]
          exact ⟨rfl, rfl, rfl⟩
        have bg : decide ((n : Int) < (T0 : Int)) = false := decide_eq_false (by omega)
        clear hz
        obtain ⟨k3, k4⟩ := res3_set H32.out 1 T1 T0
        obtain ⟨r0, r1, r2, f0, f1, f2⟩ := H32.out
        have hB3 := HB2.out.grown k4 HB2.out.size (by intro q e; simp at e; omega)
        obtain ⟨y0, y1, y2, _⟩ := k3
        clear k4
        go_wp2_with fail
        exact bodyPost_ret (v := .agg #[.int .i64 1, .int .i64 T1, .int .i64 T0]) (by simp [results, Tryz.results88, go_sem, y0, y1, y2]) rfl ⟨⟨1, T1, T0, rfl, HA.out⟩, hB3⟩
  · have b16 : ((E0 : Int) == 16) = false := by simp; omega
    have HLK : Hid (look S L X = (E0, E1)) := by
      show _ = _
      unfold look
      rw [HI.out, HE0.out, if_neg h16, ← HE0.out, ← HE1.out]
    clear h16
    go_upto_region 5 with fail
    have hbT : Below w1.heap.size w1 (w1.alloc (.cells #[.int .i8 E0, .int .i16 E1] 146)) := (Below.refl _ _).alloc (Nat.le_refl _) _
    have H32 := hideH (H30.out.below hbT)
    have HB2 := hideH (HB0.out.trans (hbT.mono HB0.out.size))
    have e0 : (w1.alloc (.cells #[.int .i8 E0, .int .i16 E1] 146)).cell? ⟨w1.heap.size, 0, none⟩ = some (.int .i8 E0) := by simp [go_sem]
    have e1 : (w1.alloc (.cells #[.int .i8 E0, .int .i16 E1] 146)).cell? ⟨w1.heap.size, 1, none⟩ = some (.int .i16 E1) := by simp [go_sem]
    clear hbT hbW
    generalize w1.alloc (.cells #[.int .i8 E0, .int .i16 E1] 146) = w2 at *
    by_cases hz : E0 = 0
    · have HA : Hid (AnsT (look S L X) n 0 0 0) := by
        unfold Hid AnsT
        rw [HLK.out, if_pos hz]
        exact ⟨rfl, rfl, rfl⟩
      have bz : ((E0 : Int) == 0) = true := by simp; omega
      clear hz
      obtain ⟨k3, k4⟩ := res3_set H32.out 0 0 0
      obtain ⟨r0, r1, r2, f0, f1, f2⟩ := H32.out
      have hB3 := HB2.out.grown k4 HB2.out.size (by intro q e; simp at e; omega)
      obtain ⟨y0, y1, y2, _⟩ := k3
      clear k4
      go_wp2_with fail
      exact bodyPost_ret (v := .agg #[.int .i64 0, .int .i64 0, .int .i64 0]) (by simp [results, Tryz.results88, go_sem, y0, y1, y2]) rfl ⟨⟨0, 0, 0, rfl, HA.out⟩, hB3⟩
    · have bz : ((E0 : Int) == 0) = false := by simp; omega
      by_cases hg : n < E0
      · have HA : Hid (AnsT (look S L X) n 2 0 0) := by
          unfold Hid AnsT
          rw [HLK.out, if_neg hz, if_pos hg]
          exact ⟨rfl, rfl, rfl⟩
        have bg : decide ((n : Int) < (E0 : Int)) = true := decide_eq_true (by omega)
        clear hz
        obtain ⟨k3, k4⟩ := res3_set H32.out 2 0 0
        obtain ⟨r0, r1, r2, f0, f1, f2⟩ := H32.out
        have hB3 := HB2.out.grown k4 HB2.out.size (by intro q e; simp at e; omega)
        obtain ⟨y0, y1, y2, _⟩ := k3
        clear k4
        go_wp2_with fail
        exact bodyPost_ret (v := .agg #[.int .i64 2, .int .i64 0, .int .i64 0]) (by simp [results, Tryz.results88, go_sem, y0, y1, y2]) rfl ⟨⟨2, 0, 0, rfl, HA.out⟩, hB3⟩
      · have HA : Hid (AnsT (look S L X) n 1 E1 E0) := by
          unfold Hid AnsT
          rw [HLK.out, if_neg hz, if_neg hg]
          exact ⟨rfl, rfl, rfl⟩
        have bg : decide ((n : Int) < (E0 : Int)) = false := decide_eq_false (by omega)
        clear hz
        obtain ⟨k3, k4⟩ := res3_set H32.out 1 E1 E0
        obtain ⟨r0, r1, r2, f0, f1, f2⟩ := H32.out
        have hB3 := HB2.out.grown k4 HB2.out.size (by intro q e; simp at e; omega)
        obtain ⟨y0, y1, y2, _⟩ := k3
        clear k4
        go_wp2_with fail
        exact bodyPost_ret (v := .agg #[.int .i64 1, .int .i64 E1, .int .i64 E0]) (by simp [results, Tryz.results88, go_sem, y0, y1, y2]) rfl ⟨⟨1, E1, E0, rfl, HA.out⟩, hB3⟩

end Go.Proofs.YtlfabilmilkboaaGreatDoor
/-
  WHAT A TABLE OF CODES TELLS, symbol after symbol. No program.
-/
namespace Go.Proofs.YtlfabilmilkboaaGreatDoor
open Go.RowKit
set_option linter.unusedVariables false

/-- The low bits of x are symbol s's code. -/
def Hit (zs : List Int) (s x : Nat) : Prop := Coded zs s ∧ x % 2 ^ ln zs s = tr (num zs s) (ln zs s)
theorem Hit.one {zs : List Int} (hk : SS zs 15 ≤ 32768) {s t x : Nat} (h : Hit zs s x) (h' : Hit zs t x) : s = t :=
  cov_one ((cov_iff h.1 hk x).1 h.2) ((cov_iff h'.1 hk x).1 h'.2)
/-- The table holds the codes of the symbols below k. -/
structure TI (zs : List Int) (k : Nat) (S : Nat → Nat × Nat) (m : Nat) (L : Nat → Nat → Nat × Nat) : Prop where
  fit : ∀ x, (∃ s, s < k ∧ Hit zs s x ∧ look S L x = (ln zs s, s)) ∨ ((∀ s, s < k → ¬ Hit zs s x) ∧ look S L x = (0, 0))
  l1 : ∀ i, (S i).1 ≤ 16
  l2 : ∀ i, (S i).1 = 16 → (S i).2 < m
  l3 : ∀ i, (S i).2 ≤ 320
  l4 : ∀ i j, (L i j).1 ≤ 15 ∧ (L i j).2 ≤ 320
  inj : ∀ i j, (S i).1 = 16 → (S j).1 = 16 → (S i).2 = (S j).2 → i = j
  most : m ≤ k
theorem TI.zero (zs : List Int) : TI zs 0 (fun _ => (0, 0)) 0 (fun _ _ => (0, 0)) := by
  refine ⟨fun x => .inr ⟨fun s hs => by omega, by simp [look]⟩, fun i => by simp, fun i h => by simp at h, fun i => by simp, fun i j => by simp, fun i j h => by simp at h, Nat.le_refl _⟩
/-- A symbol without a code. -/
theorem TI.skip {zs : List Int} {k m : Nat} {S : Nat → Nat × Nat} {L : Nat → Nat → Nat × Nat} (h : TI zs k S m L) (h0 : ln zs k = 0) : TI zs (k + 1) S m L := by
  refine { h with fit := fun x => ?_, most := by have := h.most; omega }
  rcases h.fit x with ⟨s, h1, h2, h3⟩ | ⟨h1, h2⟩
  · exact .inl ⟨s, by omega, h2, h3⟩
  · refine .inr ⟨fun s hs hh => ?_, h2⟩
    by_cases e : s = k
    · subst e
      have := hh.1.pos
      omega
    · exact h1 s (by omega) hh
theorem TI.none {zs : List Int} {k m : Nat} {S : Nat → Nat × Nat} {L : Nat → Nat → Nat × Nat} (h : TI zs k S m L) (hk : SS zs 15 ≤ 32768) {x : Nat} (hx : Hit zs k x) : look S L x = (0, 0) := by
  rcases h.fit x with ⟨s, h1, h2, _⟩ | ⟨_, h2⟩
  · have := h2.one hk hx
    omega
  · exact h2
/-- One more symbol, when the look changes just where its code is. -/
theorem TI.step {zs : List Int} {k m : Nat} {S S' : Nat → Nat × Nat} {L L' : Nat → Nat → Nat × Nat} (h : TI zs k S m L) (hk : SS zs 15 ≤ 32768) (hy : ∀ x, Hit zs k x → look S' L' x = (ln zs k, k)) (hn : ∀ x, ¬ Hit zs k x → look S' L' x = look S L x) (x : Nat) :
    (∃ s, s < k + 1 ∧ Hit zs s x ∧ look S' L' x = (ln zs s, s)) ∨ ((∀ s, s < k + 1 → ¬ Hit zs s x) ∧ look S' L' x = (0, 0)) := by
  by_cases hx : Hit zs k x
  · exact .inl ⟨k, by omega, hx, hy x hx⟩
  · rw [hn x hx]
    rcases h.fit x with ⟨s, h1, h2, h3⟩ | ⟨h1, h2⟩
    · exact .inl ⟨s, by omega, h2, h3⟩
    · refine .inr ⟨fun s hs hh => ?_, h2⟩
      by_cases e : s = k
      · subst e; exact hx hh
      · exact h1 s (by omega) hh
theorem TI.short {zs : List Int} {k m X Y : Nat} {S : Nat → Nat × Nat} {L : Nat → Nat → Nat × Nat} (h : TI zs k S m L) (hk : SS zs 15 ≤ 32768) (hc : Coded zs k) (hk2 : k ≤ 320) (hX : ln zs k = X) (hY : tr (num zs k) (ln zs k) = Y) (h9 : X ≤ 9) :
    TI zs (k + 1) (fun i => if i % 2 ^ X = Y then (X, k) else S i) m L := by
  have hm : ∀ x, x % 512 % 2 ^ X = x % 2 ^ X := fun x => mod_mod x X 9 h9
  have hHit : ∀ x, Hit zs k x ↔ x % 2 ^ X = Y := fun x => by
    unfold Hit
    rw [hY, hX]
    exact ⟨fun h => h.2, fun h => ⟨hc, h⟩⟩
  refine ⟨h.step hk (fun x hx => ?_) (fun x hx => ?_), fun i => ?_, fun i => ?_, fun i => ?_, h.l4, fun i j => ?_, by have := h.most; omega⟩
  · rw [hHit] at hx
    unfold look
    simp only [hm, hx, if_true]
    rw [if_neg (by omega), hX]
  · rw [hHit] at hx
    unfold look
    simp only [hm, hx, if_false]
  · try dsimp only
    split
    · show X ≤ 16; omega
    · exact h.l1 i
  · try dsimp only
    split
    · intro e; exfalso; have : X = 16 := e; omega
    · exact h.l2 i
  · try dsimp only
    split
    · exact hk2
    · exact h.l3 i
  · try dsimp only
    split
    · intro e; exfalso; have : X = 16 := e; omega
    · split
      · intro _ e; exfalso; have : X = 16 := e; omega
      · exact h.inj i j
/-- Bits of a long code. -/
theorem long_bits (x Y X : Nat) (h9 : 9 < X) (h15 : X ≤ 15) (hY : Y < 2 ^ X) : x % 2 ^ X = Y ↔ x % 512 = Y % 512 ∧ x / 512 % 64 % 2 ^ (X - 9) = Y / 512 := by
  have e64 : x / 512 % 64 % 2 ^ (X - 9) = x / 512 % 2 ^ (X - 9) := mod_mod (x / 512) (X - 9) 6 (by omega)
  have eP : 2 ^ X = 512 * 2 ^ (X - 9) := by
    rw [show X = 9 + (X - 9) from by omega, Nat.pow_add, show 9 + (X - 9) - 9 = X - 9 from by omega]
  rw [e64]
  rw [eP] at hY ⊢
  generalize 2 ^ (X - 9) = P at *
  have h1 : x % (512 * P) = x % 512 + 512 * (x / 512 % P) := Nat.mod_mul
  rw [h1]
  constructor
  · intro e
    have h2 : x % 512 < 512 := Nat.mod_lt _ (by decide)
    generalize x % 512 = a at *
    generalize x / 512 % P = b at *
    omega
  · rintro ⟨e1, e2⟩
    rw [e1, e2]
    omega
theorem TI.long_has {zs : List Int} {k m X Y : Nat} {S : Nat → Nat × Nat} {L : Nat → Nat → Nat × Nat} (h : TI zs k S m L) (hk : SS zs 15 ≤ 32768) (hc : Coded zs k) (hk2 : k ≤ 320) (hX : ln zs k = X) (hY : tr (num zs k) (ln zs k) = Y) (hYl : Y < 2 ^ X) (h9 : 9 < X) (h16 : (S (Y % 512)).1 = 16) :
    TI zs (k + 1) S m (fun j => if j = (S (Y % 512)).2 then fun i => if i % 2 ^ (X - 9) = Y / 512 then (X, k) else L (S (Y % 512)).2 i else L j) := by
  have h15 : X ≤ 15 := hX ▸ hc.most
  have hHit : ∀ x, Hit zs k x ↔ x % 512 = Y % 512 ∧ x / 512 % 64 % 2 ^ (X - 9) = Y / 512 := fun x => by
    rw [← long_bits x Y X h9 h15 hYl]
    unfold Hit
    rw [hY, hX]
    exact ⟨fun h => h.2, fun h => ⟨hc, h⟩⟩
  refine ⟨h.step hk (fun x hx => ?_) (fun x hx => ?_), h.l1, h.l2, h.l3, fun i j => ?_, h.inj, by have := h.most; omega⟩
  · obtain ⟨e1, e2⟩ := (hHit x).1 hx
    unfold look
    rw [e1, if_pos h16]
    dsimp only
    rw [if_pos rfl, if_pos e2, hX]
  · rw [hHit] at hx
    unfold look
    by_cases e16 : (S (x % 512)).1 = 16
    · rw [if_pos e16, if_pos e16]
      dsimp only
      by_cases eq : (S (x % 512)).2 = (S (Y % 512)).2
      · have e1 := h.inj _ _ e16 h16 eq
        rw [if_pos eq, if_neg (fun e2 => hx ⟨e1, e2⟩), eq]
      · rw [if_neg eq]
    · rw [if_neg e16, if_neg e16]
  · try dsimp only
    split
    · dsimp only
      split
      · exact ⟨h15, hk2⟩
      · exact h.l4 _ _
    · exact h.l4 _ _
theorem TI.long_new {zs : List Int} {k m X Y : Nat} {S : Nat → Nat × Nat} {L : Nat → Nat → Nat × Nat} (h : TI zs k S m L) (hk : SS zs 15 ≤ 32768) (hc : Coded zs k) (hk2 : k ≤ 320) (hX : ln zs k = X) (hY : tr (num zs k) (ln zs k) = Y) (hYl : Y < 2 ^ X) (h9 : 9 < X) (h16 : ¬ (S (Y % 512)).1 = 16) :
    TI zs (k + 1) (fun i => if i = Y % 512 then (16, m) else S i) (m + 1) (fun j => if j = m then fun i => if i % 2 ^ (X - 9) = Y / 512 then (X, k) else (0, 0) else L j) := by
  have h15 : X ≤ 15 := hX ▸ hc.most
  have hHit : ∀ x, Hit zs k x ↔ x % 512 = Y % 512 ∧ x / 512 % 64 % 2 ^ (X - 9) = Y / 512 := fun x => by
    rw [← long_bits x Y X h9 h15 hYl]
    unfold Hit
    rw [hY, hX]
    exact ⟨fun h => h.2, fun h => ⟨hc, h⟩⟩
  have h00 : S (Y % 512) = (0, 0) := by
    have h1 := h.none hk (x := Y) ⟨hc, by rw [hX, ← hX, hY, hX]; exact Nat.mod_eq_of_lt hYl⟩
    unfold look at h1
    rw [if_neg h16] at h1
    exact h1
  refine ⟨h.step hk (fun x hx => ?_) (fun x hx => ?_), fun i => ?_, fun i => ?_, fun i => ?_, fun i j => ?_, fun i j => ?_, by have := h.most; omega⟩
  · obtain ⟨e1, e2⟩ := (hHit x).1 hx
    unfold look
    simp only [e1, if_true, e2, hX]
  · rw [hHit] at hx
    unfold look
    by_cases e1 : x % 512 = Y % 512
    · have e2 : ¬ x / 512 % 64 % 2 ^ (X - 9) = Y / 512 := fun e2 => hx ⟨e1, e2⟩
      simp only [e1, if_true, e2, if_false, h00]
      simp
    · simp only [e1, if_false]
      by_cases e16 : (S (x % 512)).1 = 16
      · have := h.l2 _ e16
        rw [if_pos e16, if_pos e16, if_neg (by omega)]
      · rw [if_neg e16, if_neg e16]
  · try dsimp only
    split
    · exact Nat.le_refl _
    · exact h.l1 i
  · try dsimp only
    split
    · intro _; show m < m + 1; omega
    · intro e; have := h.l2 i e; omega
  · try dsimp only
    split
    · show m ≤ 320; have := h.most; omega
    · exact h.l3 i
  · try dsimp only
    split
    · dsimp only
      split
      · exact ⟨h15, hk2⟩
      · exact ⟨Nat.zero_le _, Nat.zero_le _⟩
    · exact h.l4 _ _
  · try dsimp only
    by_cases ei : i = Y % 512
    · by_cases ej : j = Y % 512
      · intro _ _ _; omega
      · rw [if_pos ei, if_neg ej]
        intro _ e1 e2
        have h1 := h.l2 j e1
        have h2 : m = (S j).2 := e2
        omega
    · by_cases ej : j = Y % 512
      · rw [if_neg ei, if_pos ej]
        intro e1 _ e2
        have h1 := h.l2 i e1
        have h2 : (S i).2 = m := e2
        omega
      · rw [if_neg ei, if_neg ej]
        exact h.inj i j
/-- What the whole table answers. -/
theorem TI.ans {zs : List Int} {m b n k s l : Nat} {S : Nat → Nat × Nat} {L : Nat → Nat → Nat × Nat} (h : TI zs zs.length S m L) (hk : SS zs 15 ≤ 32768) (ha : AnsT (look S L (b % 2 ^ n)) n k s l) : Ans zs b n k s l := by
  rcases h.fit (b % 2 ^ n) with ⟨i, h1, h2, h3⟩ | ⟨h1, h2⟩
  · rw [h3] at ha
    have hc := (cov_iff h2.1 hk (b % 2 ^ n)).1 h2.2
    have hp := h2.1.pos
    unfold AnsT at ha
    rw [if_neg (by show ¬ ln zs i = 0; omega)] at ha
    by_cases hn : n < ln zs i
    · rw [if_pos hn] at ha
      exact .inr (.inl ⟨i, hc, hn, ha⟩)
    · rw [if_neg hn] at ha
      exact .inl ⟨i, hc, by omega, ha⟩
  · rw [h2] at ha
    unfold AnsT at ha
    rw [if_pos rfl] at ha
    refine .inr (.inr ⟨fun i hc => ?_, ha⟩)
    exact h1 i hc.1.lt ⟨hc.1, (cov_iff hc.1 hk (b % 2 ^ n)).2 hc⟩
end Go.Proofs.YtlfabilmilkboaaGreatDoor
