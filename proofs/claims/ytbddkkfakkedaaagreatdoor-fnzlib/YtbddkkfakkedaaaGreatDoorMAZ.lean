import Derived.Test.YtbddkkfakkedaaaGreatDoorMAY
namespace Go.Proofs.YtbddkkfakkedaaaGreatDoor
open Go.RowKit
attribute [local go_sem ↓] Go.wp_at_zero Go.wp_at_succ
set_option linter.unusedVariables false

/-- What the table's look answers. -/
def AnsT (t : Nat × Nat) (n k s l : Nat) : Prop := if t.1 = 0 then k = 0 ∧ s = 0 ∧ l = 0 else if n < t.1 then k = 2 ∧ s = 0 ∧ l = 0 else k = 1 ∧ s = t.2 ∧ l = t.1
theorem mask_any (b n : Nat) (hb : b < 2 ^ 64) (hn : n ≤ 64) : bits .and .u64 (b : Int) (IntKind.u64.wrap (IntKind.u64.wrap (2 ^ n) - 1)) = ((b % 2 ^ n : Nat) : Int) := by
  have h0 : 0 < 2 ^ n := Nat.pos_of_ne_zero (by simp)
  have h1 : 2 ^ n ≤ 2 ^ 64 := Nat.pow_le_pow_right (by decide) hn
  have h2 : IntKind.u64.wrap (IntKind.u64.wrap (2 ^ n) - 1) = ((2 ^ n - 1 : Nat) : Int) := by
    have h3 : ((2 : Int) ^ n) = ((2 ^ n : Nat) : Int) := (Int.natCast_pow 2 n).symm
    rw [h3]
    generalize 2 ^ n = P at *
    rw [IntKind.wrap_u64, IntKind.wrap_u64]
    omega
  rw [h2, u64_and b (2 ^ n - 1) hb (by omega), Nat.and_two_pow_sub_one_eq_mod]
set_option maxRecDepth 100000 in
set_option maxHeartbeats 6400000 in
theorem tnext_any (p m b n M X : Nat) (S : Nat → Nat × Nat) (L : Nat → Nat → Nat × Nat) (w : World) (hT : Tab w p S m L) (hb : b < 2 ^ 64) (hn : n ≤ 64)
    (hX : b % 2 ^ n = X) (hl1 : ∀ i, (S i).1 ≤ 16) (hl2 : ∀ i, (S i).1 = 16 → (S i).2 < m) (hl3 : ∀ i, (S i).2 ≤ 320) (hl4 : ∀ i j, (L i j).1 ≤ 15 ∧ (L i j).2 ≤ 320) :
    Calls Tryz.prog 170 #[.pointer (some ⟨p, 0, none⟩), .int .u64 b, .int .i64 n] w fun e w' => (∃ k s l : Nat, e = .returned (.agg #[.int .i64 k, .int .i64 s, .int .i64 l]) ∧ AnsT (look S L X) n k s l) ∧ Below w.heap.size w w' := by
  have hb0 : Below w.heap.size w (w.alloc (.cells #[.int .i64 0, .int .i64 0, .int .i64 0] 250)) := (Below.refl _ _).alloc (Nat.le_refl _) _
  have HB0 := hideH hb0
  have H30 := hideH (res3_new w 0 0 0 250)
  have HT := hideH (hT.below hb0)
  have HX := hideH hX
  clear hT hb0 hX
  go_enter Tryz.func170, Tryz.ntmps170
  go_upto_region 2 with fail
  rw [mask_any b n hb hn, HX.out]
  have hX64 : X < 2 ^ 64 := by
    rw [← HX.out]
    exact Nat.lt_of_le_of_lt (Nat.mod_le _ _) hb
  obtain ⟨I, hI⟩ : ∃ I, X % 512 = I := ⟨_, rfl⟩
  have hI1 : I < 512 := by omega
  have hIi : ((X : Int) % 512) = (I : Int) := by omega
  have hIt : ((X : Int).tmod 512) = (I : Int) := by rw [Int.tmod_eq_emod_of_nonneg (by omega)]; exact hIi
  obtain ⟨E0, hE0⟩ : ∃ e, (S I).1 = e := ⟨_, rfl⟩
  obtain ⟨E1, hE1⟩ : ∃ e, (S I).2 = e := ⟨_, rfl⟩
  have c0 := HT.out.short.at0 I hI1
  have c1 := HT.out.short.at1 I hI1
  rw [hE0] at c0
  rw [hE1] at c1
  rw [Nat.zero_add] at c0 c1
  have hE16 : E0 ≤ 16 := hE0 ▸ hl1 I
  have hE320 : E1 ≤ 320 := hE1 ▸ hl3 I
  have HI := hideH hI
  have HE0 := hideH hE0
  have HE1 := hideH hE1
  have HL1 := hideH hl1
  have HL2 := hideH hl2
  have HL3 := hideH hl3
  have HL4 := hideH hl4
  have hpw := HT.out.short.lt
  clear hI hE0 hE1 hl1 hl2 hl3 hl4
  generalize w.alloc (.cells #[.int .i64 0, .int .i64 0, .int .i64 0] 250) = w1 at *
  have hbW : Below w1.heap.size w1 (w1.alloc (.cells #[.int .i8 E0, .int .i16 E1] 243)) := (Below.refl _ _).alloc (Nat.le_refl _) _
  by_cases h16 : E0 = 16
  · have b16 : ((E0 : Int) == 16) = true := by simp; omega
    obtain ⟨lo, c, xs, hcl, how, hen⟩ := (HT.out.below hbW).long
    obtain ⟨g, rfl, hpg, hEn⟩ := hen E1 (by have := HL2.out I (by rw [HE0.out]; exact h16); rw [HE1.out] at this; exact this)
    have hEm : E1 < m := by have := HL2.out I (by rw [HE0.out]; exact h16); rw [HE1.out] at this; exact this
    obtain ⟨J, hJ⟩ : ∃ J, X / 512 % 64 = J := ⟨_, rfl⟩
    have hJ1 : J < 64 := by omega
    obtain ⟨T0, hT0⟩ : ∃ e, (L E1 J).1 = e := ⟨_, rfl⟩
    obtain ⟨T1, hT1⟩ : ∃ e, (L E1 J).2 = e := ⟨_, rfl⟩
    have d0 := hEn.at0 J hJ1
    have d1 := hEn.at1 J hJ1
    rw [hT0] at d0
    rw [hT1] at d1
    have hgw := hEn.lt
    have hK1 : (X : Int) / 512 = ((X / 512 : Nat) : Int) := by omega
    obtain ⟨Q, hQ⟩ : ∃ Q, X / 512 = Q := ⟨_, rfl⟩
    rw [hQ] at hJ
    have hQi : (X : Int) / 512 = (Q : Int) := by omega
    have hQw : IntKind.u64.wrap (Q : Int) = (Q : Int) := by rw [IntKind.wrap_u64]; omega
    have hJi : (Q : Int) % 64 = (J : Int) := by omega
    have hJt : (Q : Int).tmod 64 = (J : Int) := by rw [Int.tmod_eq_emod_of_nonneg (by omega)]; exact hJi
    have HJ := hideH hJ
    have HQ := hideH hQ
    have HT0 := hideH hT0
    have HT1 := hideH hT1
    have H16 := hideH h16
    have hE0m : (0 : Int) ≤ (E1 : Int) := by omega
    have hE1m : (E1 : Int) < (m : Int) := by omega
    clear hEn hen how hK1 hJ hQ hT0 hT1 h16
    go_upto_region 4 with fail
    have HLK : Hid (look S L X = (T0, T1)) := by
      show _ = _
      unfold look
      rw [HI.out, HE0.out, if_pos H16.out, HE1.out, HQ.out, HJ.out, ← HT0.out, ← HT1.out]
    have hT15 : T0 ≤ 15 := by rw [← HT0.out]; exact (HL4.out _ _).1
    have hT320 : T1 ≤ 320 := by rw [← HT1.out]; exact (HL4.out _ _).2
    go_region
    clear d0 d1 hcl hgw
    have hbT : Below w1.heap.size w1 ((w1.alloc (.cells #[.int .i8 T0, .int .i16 T1] 243)).drew) := ((Below.refl _ _).alloc (Nat.le_refl _) _).drew
    have H32 := hideH (H30.out.below hbT)
    have HB2 := hideH (HB0.out.trans (hbT.mono HB0.out.size))
    have e0 : ((w1.alloc (.cells #[.int .i8 T0, .int .i16 T1] 243)).drew).cell? ⟨w1.heap.size, 0, none⟩ = some (.int .i8 T0) := by simp [go_sem]
    have e1 : ((w1.alloc (.cells #[.int .i8 T0, .int .i16 T1] 243)).drew).cell? ⟨w1.heap.size, 1, none⟩ = some (.int .i16 T1) := by simp [go_sem]
    clear hbT hbW
    generalize (w1.alloc (.cells #[.int .i8 T0, .int .i16 T1] 243)).drew = w2 at *
    by_cases hz : T0 = 0
    · have HA : Hid (AnsT (look S L X) n 0 0 0) := by
        unfold Hid AnsT
        rw [HLK.out, if_pos hz]
        exact ⟨rfl, rfl, rfl⟩
      have bz : ((T0 : Int) == 0) = true := by simp; omega
      clear hz
      obtain ⟨k3, k4⟩ := res3_set H32.out 0 0 0
      obtain ⟨r0, r1, r2, f0, f1, f2⟩ := H32.out
      have hB3 := HB2.out.grown k4 HB2.out.size (by intro q e; simp at e; omega)
      obtain ⟨y0, y1, y2, _⟩ := k3
      clear k4
      go_wp2_with fail
      exact bodyPost_ret (v := .agg #[.int .i64 0, .int .i64 0, .int .i64 0]) (by simp [results, Tryz.results170, go_sem, y0, y1, y2]) rfl ⟨⟨0, 0, 0, rfl, HA.out⟩, hB3⟩
    · have bz : ((T0 : Int) == 0) = false := by simp; omega
      by_cases hg : n < T0
      · have HA : Hid (AnsT (look S L X) n 2 0 0) := by
          unfold Hid AnsT
          rw [HLK.out, if_neg hz, if_pos hg]
          exact ⟨rfl, rfl, rfl⟩
        have bg : decide ((n : Int) < (T0 : Int)) = true := decide_eq_true (by omega)
        clear hz
        obtain ⟨k3, k4⟩ := res3_set H32.out 2 0 0
        obtain ⟨r0, r1, r2, f0, f1, f2⟩ := H32.out
        have hB3 := HB2.out.grown k4 HB2.out.size (by intro q e; simp at e; omega)
        obtain ⟨y0, y1, y2, _⟩ := k3
        clear k4
        go_wp2_with fail
        exact bodyPost_ret (v := .agg #[.int .i64 2, .int .i64 0, .int .i64 0]) (by simp [results, Tryz.results170, go_sem, y0, y1, y2]) rfl ⟨⟨2, 0, 0, rfl, HA.out⟩, hB3⟩
      · have HA : Hid (AnsT (look S L X) n 1 T1 T0) := by
          unfold Hid AnsT
          rw [HLK.out, if_neg hz, if_neg hg]
          exact ⟨rfl, rfl, rfl⟩
        have bg : decide ((n : Int) < (T0 : Int)) = false := decide_eq_false (by omega)
        clear hz
        obtain ⟨k3, k4⟩ := res3_set H32.out 1 T1 T0
        obtain ⟨r0, r1, r2, f0, f1, f2⟩ := H32.out
        have hB3 := HB2.out.grown k4 HB2.out.size (by intro q e; simp at e; omega)
        obtain ⟨y0, y1, y2, _⟩ := k3
        clear k4
        go_wp2_with fail
        exact bodyPost_ret (v := .agg #[.int .i64 1, .int .i64 T1, .int .i64 T0]) (by simp [results, Tryz.results170, go_sem, y0, y1, y2]) rfl ⟨⟨1, T1, T0, rfl, HA.out⟩, hB3⟩
  · have b16 : ((E0 : Int) == 16) = false := by simp; omega
    have HLK : Hid (look S L X = (E0, E1)) := by
      show _ = _
      unfold look
      rw [HI.out, HE0.out, if_neg h16, ← HE0.out, ← HE1.out]
    clear h16
    go_upto_region 5 with fail
    have hbT : Below w1.heap.size w1 (w1.alloc (.cells #[.int .i8 E0, .int .i16 E1] 243)) := (Below.refl _ _).alloc (Nat.le_refl _) _
    have H32 := hideH (H30.out.below hbT)
    have HB2 := hideH (HB0.out.trans (hbT.mono HB0.out.size))
    have e0 : (w1.alloc (.cells #[.int .i8 E0, .int .i16 E1] 243)).cell? ⟨w1.heap.size, 0, none⟩ = some (.int .i8 E0) := by simp [go_sem]
    have e1 : (w1.alloc (.cells #[.int .i8 E0, .int .i16 E1] 243)).cell? ⟨w1.heap.size, 1, none⟩ = some (.int .i16 E1) := by simp [go_sem]
    clear hbT hbW
    generalize w1.alloc (.cells #[.int .i8 E0, .int .i16 E1] 243) = w2 at *
    by_cases hz : E0 = 0
    · have HA : Hid (AnsT (look S L X) n 0 0 0) := by
        unfold Hid AnsT
        rw [HLK.out, if_pos hz]
        exact ⟨rfl, rfl, rfl⟩
      have bz : ((E0 : Int) == 0) = true := by simp; omega
      clear hz
      obtain ⟨k3, k4⟩ := res3_set H32.out 0 0 0
      obtain ⟨r0, r1, r2, f0, f1, f2⟩ := H32.out
      have hB3 := HB2.out.grown k4 HB2.out.size (by intro q e; simp at e; omega)
      obtain ⟨y0, y1, y2, _⟩ := k3
      clear k4
      go_wp2_with fail
      exact bodyPost_ret (v := .agg #[.int .i64 0, .int .i64 0, .int .i64 0]) (by simp [results, Tryz.results170, go_sem, y0, y1, y2]) rfl ⟨⟨0, 0, 0, rfl, HA.out⟩, hB3⟩
    · have bz : ((E0 : Int) == 0) = false := by simp; omega
      by_cases hg : n < E0
      · have HA : Hid (AnsT (look S L X) n 2 0 0) := by
          unfold Hid AnsT
          rw [HLK.out, if_neg hz, if_pos hg]
          exact ⟨rfl, rfl, rfl⟩
        have bg : decide ((n : Int) < (E0 : Int)) = true := decide_eq_true (by omega)
        clear hz
        obtain ⟨k3, k4⟩ := res3_set H32.out 2 0 0
        obtain ⟨r0, r1, r2, f0, f1, f2⟩ := H32.out
        have hB3 := HB2.out.grown k4 HB2.out.size (by intro q e; simp at e; omega)
        obtain ⟨y0, y1, y2, _⟩ := k3
        clear k4
        go_wp2_with fail
        exact bodyPost_ret (v := .agg #[.int .i64 2, .int .i64 0, .int .i64 0]) (by simp [results, Tryz.results170, go_sem, y0, y1, y2]) rfl ⟨⟨2, 0, 0, rfl, HA.out⟩, hB3⟩
      · have HA : Hid (AnsT (look S L X) n 1 E1 E0) := by
          unfold Hid AnsT
          rw [HLK.out, if_neg hz, if_neg hg]
          exact ⟨rfl, rfl, rfl⟩
        have bg : decide ((n : Int) < (E0 : Int)) = false := decide_eq_false (by omega)
        clear hz
        obtain ⟨k3, k4⟩ := res3_set H32.out 1 E1 E0
        obtain ⟨r0, r1, r2, f0, f1, f2⟩ := H32.out
        have hB3 := HB2.out.grown k4 HB2.out.size (by intro q e; simp at e; omega)
        obtain ⟨y0, y1, y2, _⟩ := k3
        clear k4
        go_wp2_with fail
        exact bodyPost_ret (v := .agg #[.int .i64 1, .int .i64 E1, .int .i64 E0]) (by simp [results, Tryz.results170, go_sem, y0, y1, y2]) rfl ⟨⟨1, E1, E0, rfl, HA.out⟩, hB3⟩

end Go.Proofs.YtbddkkfakkedaaaGreatDoor
namespace Go.Proofs.YtbddkkfakkedaaaGreatDoor
open Go.RowKit
attribute [local go_sem ↓] Go.wp_at_zero Go.wp_at_succ
set_option linter.unusedVariables false

/-- Nothing but the table's two blocks has been written. -/
structure Upd (w w' : World) (p : Nat) : Prop where
  os : w'.os = w.os
  tape : w'.tape = w.tape
  output : w'.output = w.output
  size : w.heap.size ≤ w'.heap.size
  block : ∀ k, k < w.heap.size → k ≠ p → (∀ g m c, w.cell? ⟨p, 1024, none⟩ = some (.slice (some ⟨g, 0, none⟩) m c) → k ≠ g) → w'.heap[k]? = w.heap[k]?

theorem Ents.other {w : World} {g o n : Nat} {F : Nat → Nat × Nat} (h : Ents w g o n F) {f : Nat} (hf : f < o ∨ o + n * 2 ≤ f) (v : Value) : Ents (w.setCell ⟨g, f, none⟩ v) g o n F := by
  refine ⟨by simpa using h.lt, ?_, ?_, fun o => by rw [World.frozen?_setCell]; exact h.free o⟩
  · intro i hi
    rw [World.cell?_setCell_other _ _ _ _ (by first | (simp; done) | (simp; omega))]
    exact h.at0 i hi
  · intro i hi
    rw [World.cell?_setCell_other _ _ _ _ (by first | (simp; done) | (simp; omega))]
    exact h.at1 i hi
theorem ownsRow_lt {w : World} {B g N c k : Nat} {e : TypeId} {xs : List Value} (h : w.ownsRow B e k (.slice (some ⟨g, 0, none⟩) N c) N xs) : g < w.heap.size := (h.lt g rfl).2
/-- A row of arrays with one more behind it. -/
theorem long_push {w w4 : World} {B B' p m c c4 g4 : Nat} {lo : Option Addr} {xs news : List Value} {e : TypeId} {L : Nat → Nat → Nat × Nat}
    (how : w.ownsRow B e 128 (.slice lo m c) m xs) (hen : ∀ j, j < m → ∃ g, lo = some ⟨g, 0, none⟩ ∧ p < g ∧ Ents w g (j * 128) 64 (L j))
    (hown : w4.ownsRow B' e 128 (.slice (some ⟨g4, 0, none⟩) (m + 1) c4) (m + 1) (xs ++ news)) (h0 : ∀ i, i < 64 → news[i * 2]? = some (.int .i8 0)) (h1 : ∀ i, i < 64 → news[i * 2 + 1]? = some (.int .i16 0)) :
    ∀ j, j < m + 1 → Ents w4 g4 (j * 128) 64 (if j = m then fun _ => (0, 0) else L j) := by
  intro j hj
  have hxl : xs.length = m * 128 := how.1
  by_cases hjm : j = m
  · subst hjm
    rw [if_pos rfl]
    refine ⟨ownsRow_lt hown, fun i hi => ?_, fun i hi => ?_, fun o => hown.frozenAt o⟩
    · rw [hown.cellAt _ (by omega), List.getElem?_append_right (by omega), hxl, Nat.add_sub_cancel_left, h0 i hi]
      rfl
    · rw [hown.cellAt _ (by omega), List.getElem?_append_right (by omega), hxl, Nat.add_assoc, Nat.add_sub_cancel_left, h1 i hi]
      rfl
  · rw [if_neg hjm]
    obtain ⟨g, rfl, _, hE⟩ := hen j (by omega)
    refine ⟨ownsRow_lt hown, fun i hi => ?_, fun i hi => ?_, fun o => hown.frozenAt o⟩
    · rw [hown.cellAt _ (by omega), List.getElem?_append_left (by omega), ← how.cellAt _ (by omega)]
      exact hE.at0 i hi
    · rw [hown.cellAt _ (by omega), List.getElem?_append_left (by omega), ← how.cellAt _ (by omega)]
      exact hE.at1 i hi
theorem wrap_i16 (m : Nat) (h : m ≤ 512) : IntKind.i16.wrap (m : Int) = (m : Int) := by simp [IntKind.wrap, IntKind.bits, IntKind.signed]; omega

theorem Tryz.info_arr : (Tryz.prog.info? 258).map (fun i => (i.zero, i.size, i.bytes)) = some (some (.agg Tryz.zeroCells258), 128, 256) := by kernel_rfl
theorem zeroArr_size : Tryz.zeroCells258.size = 128 := by kernel_rfl
set_option maxRecDepth 100000 in
set_option maxHeartbeats 6400000 in
/-- link where there is one. -/
theorem link_has (p m f : Nat) (S : Nat → Nat × Nat) (L : Nat → Nat → Nat × Nat) (w : World) (hT : Tab w p S m L) (hf : f < 512) (h16 : (S f).1 = 16) (hl2 : (S f).2 ≤ 512) :
    Calls Tryz.prog 177 #[.pointer (some ⟨p, 0, none⟩), .int .u64 f] w fun e w' => e = .returned (.int .i16 ((S f).2 : Nat)) ∧ w' = w := by
  obtain ⟨E1, hE1⟩ : ∃ e, (S f).2 = e := ⟨_, rfl⟩
  have c0 := hT.short.at0 f hf
  have c1 := hT.short.at1 f hf
  rw [h16] at c0
  rw [hE1] at c1 hl2
  rw [hE1]
  rw [Nat.zero_add] at c0 c1
  have hpw := hT.short.lt
  clear hT hE1 h16
  go_enter Tryz.func177, Tryz.ntmps177
  go_wp2_with fail
  go_ret
  exact ⟨rfl, rfl⟩

end Go.Proofs.YtbddkkfakkedaaaGreatDoor
namespace Go.Proofs.YtbddkkfakkedaaaGreatDoor
open Go.RowKit
attribute [local go_sem ↓] Go.wp_at_zero Go.wp_at_succ
set_option linter.unusedVariables false

def zz : Nat → List Value
  | 0 => []
  | k + 1 => zz k ++ [.int .i8 0, .int .i16 0]
theorem zz_len (k : Nat) : (zz k).length = k * 2 := by
  induction k with
  | zero => rfl
  | succ k ih => simp [zz, ih]; omega
theorem zz_at (k i : Nat) (h : i < k) : (zz k)[i * 2]? = some (.int .i8 0) ∧ (zz k)[i * 2 + 1]? = some (.int .i16 0) := by
  induction k with
  | zero => omega
  | succ k ih =>
    have hl := zz_len k
    rw [zz]
    by_cases h1 : i < k
    · rw [List.getElem?_append_left (by omega), List.getElem?_append_left (by omega)]; exact ih h1
    · have h2 : i = k := by omega
      subst h2
      rw [List.getElem?_append_right (by omega), List.getElem?_append_right (by omega), hl, Nat.sub_self, Nat.add_sub_cancel_left]
      exact ⟨rfl, rfl⟩
theorem zeroArr_eq : Tryz.zeroCells258.toList = zz 64 := by kernel_rfl
theorem zeroArr_one : Tryz.zeroCells258.toList.all (fun u => u.oneCell') = true := by kernel_rfl
theorem alloc_at (w : World) (A : Array Value) (e : TypeId) (j : Nat) (u : Value) (h : A.toList[j]? = some u) : (w.alloc (.cells A e)).cell? ((⟨w.heap.size, 0, none⟩ : Addr).add j) = some u := by
  have h2 : A[j]? = some u := by simpa using h
  simp [go_sem, h2]

theorem link_fin {w w3 w4 : World} {p m c : Nat} {lo : Option Addr} {xs : List Value} {e : TypeId} {S : Nat → Nat × Nat} {L : Nat → Nat → Nat × Nat} {v4 : Value} {A : Array Value} (he : e = 258) (hpw : p < w.heap.size) (hO3 : Only w w3 p 0 1024) (hE3 : Ents w3 p 0 512 S) (hcl : w.cell? ⟨p, 1024, none⟩ = some (.slice lo m c))
    (how : w.ownsRow (p + 1) e 128 (.slice lo m c) m xs) (hen : ∀ j, j < m → ∃ g, lo = some ⟨g, 0, none⟩ ∧ p < g ∧ Ents w g (j * 128) 64 (L j))
    (hgrow : (w3.alloc (.cells A e)).grownBy w4 (Value.slice lo m c).ownBlock) (hown : w4.ownsRow (p + 1) e 128 v4 (m + 1) (xs ++ zz 64)) :
    ∃ g4 c4, v4 = .slice (some ⟨g4, 0, none⟩) (m + 1) c4 ∧ w4.cell? ⟨p, 1024, none⟩ = some (.slice lo m c) ∧ w4.frozen? ⟨p, 1024, none⟩ = false ∧
      Tab (w4.setCell ⟨p, 1024, none⟩ (.slice (some ⟨g4, 0, none⟩) (m + 1) c4)) p S (m + 1) (fun j => if j = m then fun _ => (0, 0) else L j) ∧ Upd w (w4.setCell ⟨p, 1024, none⟩ (.slice (some ⟨g4, 0, none⟩) (m + 1) c4)) p := by
  subst he
  obtain ⟨g4, c4, rfl⟩ : ∃ g4 c4, v4 = .slice (some ⟨g4, 0, none⟩) (m + 1) c4 := by
    rcases hown.2 with ⟨_, h0⟩ | ⟨g', cap', cur, h', _⟩
    · omega
    · exact ⟨g', cap', h'⟩
  have hlp : some p ≠ (Value.slice lo m c).ownBlock := by
    cases lo with
    | none => simp [Value.ownBlock]
    | some a => have := (how.lt a.block rfl).1; simp [Value.ownBlock]; omega
  have hb3 : Below w3.heap.size w3 (w3.alloc (.cells A 258)) := (Below.refl _ _).alloc (Nat.le_refl _) _
  have hEa := hE3.below hb3
  have hE4 := hEa.grown hgrow hlp
  have hcl3 := (hO3.rest 1024 (by omega)).trans hcl
  have hb : ∀ k, k < w3.heap.size → some k ≠ (Value.slice lo m c).ownBlock → w4.heap[k]? = w3.heap[k]? := fun k hk hne =>
    (hgrow.block k (Nat.lt_of_lt_of_le hk (grownBy_of_below hb3 none).size) hne).trans ((grownBy_of_below hb3 none).block k hk (by simp))
  have hcl4 := (World.cell?_of_block (a := ⟨p, 1024, none⟩) (hb p hE3.lt hlp)).trans hcl3
  have hpg : p + 1 ≤ g4 := (hown.lt g4 rfl).1
  have hs := grownBy_setCell w4 ⟨p, 1024, none⟩ (.slice (some ⟨g4, 0, none⟩) (m + 1) c4)
  have hlong := long_push how hen hown (fun i hi => (zz_at 64 i hi).1) (fun i hi => (zz_at 64 i hi).2)
  refine ⟨g4, c4, rfl, hcl4, hE4.free 1024, ⟨hE4.other (.inr (by omega)) _, some ⟨g4, 0, none⟩, c4, xs ++ zz 64, ?_, ?_, ?_⟩, ?_⟩
  · rw [World.cell?_setCell_same _ _ _ hcl4]
  · exact hown.kept hs (.inr (by simp [Value.ownBlock]; omega))
  · intro j hj
    exact ⟨g4, rfl, by omega, (hlong j hj).grown hs (by simp; omega)⟩
  · have ga := hO3.grown
    have gb := grownBy_of_below hb3 none
    refine ⟨?_, ?_, ?_, ?_, ?_⟩
    · exact hs.os.trans (hgrow.os.trans (gb.os.trans ga.os))
    · exact hs.tape.trans (hgrow.tape.trans (gb.tape.trans ga.tape))
    · exact hs.output.trans (hgrow.output.trans (gb.output.trans ga.output))
    · exact Nat.le_trans ga.size (Nat.le_trans gb.size (Nat.le_trans hgrow.size hs.size))
    · intro k hk hkp hkg
      have hne : some k ≠ (Value.slice lo m c).ownBlock := by
        rcases how.2 with ⟨h', _⟩ | ⟨g', cap', cur, h', _⟩
        · rw [h']; simp [Value.ownBlock]
        · rw [h'] at hcl ⊢
          have := hkg g' m cap' hcl
          simpa [Value.ownBlock] using this
      exact (hs.block k (Nat.lt_of_lt_of_le hk (Nat.le_trans ga.size (Nat.le_trans gb.size hgrow.size))) (by simpa using hkp)).trans ((hb k (Nat.lt_of_lt_of_le hk ga.size) hne).trans (ga.block k hk (by simpa using hkp)))

set_option maxRecDepth 100000 in
set_option maxHeartbeats 6400000 in
/-- link where there is none. -/
theorem link_new (p m f : Nat) (S : Nat → Nat × Nat) (L : Nat → Nat → Nat × Nat) (w : World) (hT : Tab w p S m L) (hf : f < 512) (hm : m ≤ 512) (h16 : ¬ (S f).1 = 16) (hl1 : (S f).1 ≤ 16) (hl2 : (S f).2 ≤ 512) :
    Calls Tryz.prog 177 #[.pointer (some ⟨p, 0, none⟩), .int .u64 f] w fun e w' => e = .returned (.int .i16 m) ∧ Tab w' p (fun i => if i = f then (16, m) else S i) (m + 1) (fun j => if j = m then fun _ => (0, 0) else L j) ∧ Upd w w' p := by
  obtain ⟨E0, hE0⟩ : ∃ e, (S f).1 = e := ⟨_, rfl⟩
  obtain ⟨E1, hE1⟩ : ∃ e, (S f).2 = e := ⟨_, rfl⟩
  obtain ⟨i0, hi, hz0, hz1, hz2⟩ := info_parts Tryz.info_arr
  have c0 := hT.short.at0 f hf
  have c1 := hT.short.at1 f hf
  rw [hE0] at c0 hl1 h16
  rw [hE1] at c1 hl2
  rw [Nat.zero_add] at c0 c1
  have hpw := hT.short.lt
  have b16 : ((E0 : Int) != 16) = true := by simp; omega
  obtain ⟨hsh, lo, c, xs, hcl, how, hen⟩ := hT
  obtain ⟨hE2, hO2⟩ := hsh.set hf 16 m
  rw [Nat.zero_add] at hE2 hO2
  have f0 := hsh.free (f * 2)
  have f1 := hsh.free (f * 2 + 1)
  have hcl2 := (hO2.rest 1024 (by omega)).trans hcl
  have how2 := how.kept hO2.grown (by
    cases lo with
    | none => exact .inl rfl
    | some a => exact .inr (by have := (how.lt a.block rfl).1; simp [Value.ownBlock]; omega))
  have hcg : ∀ k, w.cell? ⟨p, 1024, none⟩ = some k → k = .slice lo m c := fun k h => by rw [hcl] at h; exact (Option.some.inj h).symm
  have HE2 := hideH hE2
  have HO2 := hideH hO2
  have HOW := hideH how
  have HOW2 := hideH how2
  have HEN := hideH hen
  have HCL := hideH hcl
  have hmw := wrap_i16 m hm
  clear h16 hsh hE2 hO2 how hen how2 hcg hE0 hE1
  go_enter Tryz.func177, Tryz.ntmps177
  go_upto_region 2 with fail
  go_region
  have hw3 : ∃ w3 : World, w3 = ((w.setCell ⟨p, f * 2, none⟩ (.int .i8 16)).setCell ⟨p, f * 2 + 1, none⟩ (.int .i16 m)).drew := ⟨_, rfl⟩
  obtain ⟨w3, hw3⟩ := hw3
  have HO3 : Hid (Only w w3 p 0 1024) := by rw [hw3]; exact HO2.out.trans (Only.below HE2.out.lt ((Below.refl _ _).drew))
  have HE3 : Hid (Ents w3 p 0 512 (fun i => if i = f then (16, m) else S i)) := by rw [hw3]; exact HE2.out.below ((Below.refl _ _).drew)
  have HOW3 : Hid (w3.ownsRow (p + 1) 258 128 (.slice lo m c) m xs) := by rw [hw3]; exact HOW2.out
  have hcl3 : w3.cell? ⟨p, 1024, none⟩ = some (.slice lo m c) := by rw [hw3]; exact hcl2
  rw [← hw3]
  have hpw3 := HE3.out.lt
  have HN := hideH (fun (A : Array Value) (hA : A = Tryz.zeroCells258) (j : Nat) (u : Value) (h : Tryz.zeroCells258.toList[j]? = some u) => alloc_at w3 A 258 j u (by rw [hA]; exact h))
  have HOW4 := hideH (fun (A : Array Value) => ownsRow_up HOW3.out ((Below.refl _ _).alloc (Nat.le_refl _) (.cells A 258)))
  clear hw3 hcl2 HE2 HO2 HOW2 hcl c0 c1 f0 f1
  go_wp2_with (at_builtin; refine wpList_append_cells _ rfl _ _ 245 rfl (p + 1) 258 i0 (.agg Tryz.zeroCells258) 128 256 Tryz.underlying245 hi hz0 hz1 hz2 ?hzs ?hpos (.slice lo m c) m xs rfl (HOW4.out _) ⟨w3.heap.size, 0, none⟩ 1 1 Tryz.zeroCells258.toList rfl ?hlen (HN.out _ ?hA) ?hone ?h63 ?hby ?hbase ?hgo)
  case hzs => exact zeroArr_size
  case hpos => decide
  case hlen => rw [Array.length_toList]; exact zeroArr_size
  case hA => kernel_rfl
  case hone => exact fun u hu => List.all_eq_true.1 zeroArr_one u hu
  case h63 => unfold maxLen; omega
  case hby => omega
  case hbase => simp; omega
  intro v4 w4 hown hgrow
  rw [zeroArr_eq] at hown
  obtain ⟨g4, c4, rfl, hc4, hf4, hT5, hU5⟩ := link_fin rfl hpw HO3.out HE3.out HCL.out HOW.out HEN.out hgrow hown
  have a1 := hT5.short.at1 f hf
  rw [Nat.zero_add, if_pos rfl] at a1
  have HT5 := hideH hT5
  have HU5 := hideH hU5
  clear hown hgrow hT5 hU5 HN HOW3 HOW4 HE3 HO3 HOW HEN HCL hcl3 hpw3
  go_wp2_with fail
  go_ret
  exact ⟨rfl, HT5.out, HU5.out⟩

end Go.Proofs.YtbddkkfakkedaaaGreatDoor
