import Derived.Test.YtbddkkfakkedaaaGreatDoorMAJ
import Derived.Test.YtbddkkfakkedaaaGreatDoorMBS
import Derived.Test.YtbddkkfakkedaaaGreatDoorMBT
/-
  WHAT AN INFLATER MAKES OF STORED AND OF FIXED CODE. No program.
-/
namespace Go.Proofs.YtbddkkfakkedaaaGreatDoor
open Go.RowKit
set_option linter.unusedVariables false

theorem codedF {S : Nat} (h : S < 288) : Coded F288 S := by
  have hh : ∀ S : Fin 288, F288.getD S.val 0 = (ln F288 S.val : Int) ∧ 1 ≤ ln F288 S.val ∧ ln F288 S.val ≤ 15 := by decide +kernel
  obtain ⟨h1, h2, h3⟩ := hh ⟨S, h⟩
  exact ⟨by rw [F288_len]; exact h, h1, h2, h3⟩
theorem fixB_tail (zs : List Int) (m j : Nat) : ∃ R, Bin R ∧ fixB zs (m + j) = fixB zs m ++ R := by
  induction j with
  | zero => exact ⟨[], fun b hb => (by cases hb), by simp⟩
  | succ j ih =>
    obtain ⟨R, h1, h2⟩ := ih
    refine ⟨R ++ cbits (zs.getD (m + j) 0).toNat, h1.app (cbits_bin _), ?_⟩
    rw [← Nat.add_assoc, fixB, h2, List.append_assoc]
theorem fixAll_cut (zs : List Int) (m : Nat) (h : m < zs.length) (S : Nat) (hS : zs.getD m 0 = (S : Int)) (h2 : S < 256) : ∃ R, Bin R ∧ fixAll zs = fixB zs m ++ (bitsOf (cb F288 S) (ln F288 S) ++ R) := by
  obtain ⟨R, h3, h4⟩ := fixB_tail zs (m + 1) (zs.length - (m + 1))
  refine ⟨R ++ cbits 256, h3.app (cbits_bin _), ?_⟩
  unfold fixAll
  rw [show zs.length = m + 1 + (zs.length - (m + 1)) by omega, h4, fixB, hS, ← cbits_cb (codedF (by omega))]
  simp only [List.append_assoc, Int.toNat_natCast]
theorem fixAll_end (zs : List Int) : fixAll zs = fixB zs zs.length ++ (bitsOf (cb F288 256) (ln F288 256) ++ []) := by
  unfold fixAll
  rw [cbits_cb coded_256, List.append_nil]
theorem fixAll_bin (zs : List Int) : Bin (fixAll zs) := (fixB_bin zs zs.length).app (cbits_bin _)
theorem fixB_zero (zs : List Int) : fixB zs 0 = [1, 1, 0] := rfl
structure FxAt (zs : List Int) (m : Nat) (c : IC) : Prop where
  st : c.st = 12
  i : c.lc.i = (fixB zs m).length
  ul : c.ul = F288
  last : c.last = true
  out : c.out = zs.take m
theorem fx_end (zs : List Int) (c : IC) (h : FxAt zs zs.length c) : ∃ cf, IEnds 1 (pk (fixAll zs)) c 1 cf ∧ cf.out = zs ∧ cf.lc.i = (fixAll zs).length := by
  have hx := nx3_at F288_ok F288_ss coded_256 (fixB zs zs.length) [] (fixB_bin _ _) (fun b hb => by cases hb) (zs := pk (fixAll zs)) (i := c.lc.i) (by rw [fixAll_end]) h.i
  rw [← h.ul] at hx
  have s1 := istep_lit (s := 1) h.st hx
  unfold litU at s1
  rw [if_pos rfl, if_neg (by decide), if_pos rfl] at s1
  have s2 : istep0 1 (pk (fixAll zs)) { c with st := 8, lc := { c.lc with i := c.lc.i + ln c.ul 256 } } = .inl { c with st := 16, lc := { c.lc with i := c.lc.i + ln c.ul 256 } } := by
    have e : istep0 1 (pk (fixAll zs)) { c with st := 8, lc := { c.lc with i := c.lc.i + ln c.ul 256 } } = blockEndS { c with st := 8, lc := { c.lc with i := c.lc.i + ln c.ul 256 } } := by simp [istep0]
    rw [e]
    unfold blockEndS
    rw [if_pos h.last]
  refine ⟨{ c with st := 16, lc := { c.lc with i := c.lc.i + ln c.ul 256 } }, .more (by rw [h.st]; decide) s1 (.more (show (8 : Nat) ≤ 15 by decide) s2 (.fin (show ¬ (16 : Nat) ≤ 15 by decide))), ?_, ?_⟩
  · show c.out = _
    rw [h.out, List.take_length]
  · show c.lc.i + ln c.ul 256 = _
    rw [h.ul, h.i, fixAll_end, List.length_append, List.append_nil, bitsOf_len]
theorem fx_round (zs : List Int) (hz : Octets zs) (hl : zs.length ≤ 1000) (m : Nat) (hm : m < zs.length) (c : IC) (h : FxAt zs m c) : ∃ c', FxAt zs (m + 1) c' ∧ ∀ k cf, IEnds 1 (pk (fixAll zs)) c' k cf → IEnds 1 (pk (fixAll zs)) c k cf := by
  have hg := hz.getD m
  obtain ⟨S, hS⟩ : ∃ S : Nat, zs.getD m 0 = (S : Int) := ⟨(zs.getD m 0).toNat, by omega⟩
  have hS2 : S < 256 := by omega
  obtain ⟨R, hR, hc⟩ := fixAll_cut zs m hm S hS hS2
  have hx := nx3_at F288_ok F288_ss (codedF (S := S) (by omega)) (fixB zs m) R (fixB_bin _ _) hR (zs := pk (fixAll zs)) (i := c.lc.i) (by rw [hc]) h.i
  rw [← h.ul] at hx
  have s1 := istep_lit (s := 1) h.st hx
  unfold litU at s1
  have hol : ¬ 100000 < c.out.length + 1 := by rw [h.out, List.length_take]; omega
  rw [if_pos rfl, if_pos hS2, if_neg hol] at s1
  refine ⟨_, ?_, fun k cf hE => .more (by rw [h.st]; decide) s1 hE⟩
  refine ⟨h.st, ?_, h.ul, h.last, ?_⟩
  · show c.lc.i + ln c.ul S = _
    rw [h.ul, h.i, fixB, hS, Int.toNat_natCast, cbits_cb (codedF (by omega)), List.length_append, bitsOf_len]
  · show c.out ++ [(S : Int)] = _
    rw [h.out, List.take_add_one, ← hS, List.getD_eq_getElem?_getD, List.getElem?_eq_getElem hm]
    rfl
theorem fx_from (zs : List Int) (hz : Octets zs) (hl : zs.length ≤ 1000) : ∀ j m c, m + j = zs.length → FxAt zs m c → ∃ cf, IEnds 1 (pk (fixAll zs)) c 1 cf ∧ cf.out = zs ∧ cf.lc.i = (fixAll zs).length := by
  intro j
  induction j with
  | zero =>
    intro m c hj h
    have e : m = zs.length := by omega
    subst e
    exact fx_end zs c h
  | succ j ih =>
    intro m c hj h
    obtain ⟨c', h', hE⟩ := fx_round zs hz hl m (by omega) c h
    obtain ⟨cf, e1, e2⟩ := ih (m + 1) c' (by omega) h'
    exact ⟨cf, hE 1 cf e1, e2⟩
theorem fx_all (zs : List Int) (hz : Octets zs) (hl : zs.length ≤ 1000) : ∃ cf, IEnds 1 (pk (fixAll zs)) (ic0 []) 1 cf ∧ cf.out = zs ∧ cf.lc.i = (fixAll zs).length := by
  have hroom := pk_room (fixAll zs)
  obtain ⟨R, hR, hc⟩ := fixB_tail zs 0 zs.length
  rw [Nat.zero_add, fixB_zero] at hc
  have hcut : fixAll zs = [1, 1, 0] ++ (R ++ cbits 256) := by unfold fixAll; rw [hc, List.append_assoc]
  have hlen : 3 ≤ (fixAll zs).length := by rw [hcut, List.length_append]; show 3 ≤ 3 + _; omega
  have hf : field (bnum (pk (fixAll zs))) 0 3 = 3 := by
    have h := field_pk [] (fixAll zs) (fun b hb => by cases hb) (fixAll_bin zs) 3
    rw [List.nil_append, List.length_nil] at h
    rw [h, hcut, bval_app]
    show (3 + 2 ^ 3 * _) % 2 ^ 3 = 3
    rw [Nat.add_mul_mod_self_left]
  have s1 : istep0 1 (pk (fixAll zs)) (ic0 []) = .inl { ic0 [] with st := 11, last := true, lc := { lc0 0 with i := 3 } } := by
    have e : istep0 1 (pk (fixAll zs)) (ic0 []) = blockHeadS (pk (fixAll zs)) (ic0 []) := by simp [istep0, ic0]
    rw [e]
    unfold blockHeadS
    have hi0 : (ic0 []).lc.i = 0 := rfl
    rw [hi0, hf, if_pos (by omega), if_neg (by decide), if_pos (by decide)]
    rfl
  have s2 : istep0 1 (pk (fixAll zs)) { ic0 [] with st := 11, last := true, lc := { lc0 0 with i := 3 } } = .inl { ic0 [] with st := 12, last := true, lc := { lc0 0 with i := 3 }, fx := true, ul := F288, ud := F32 } := by
    have e : istep0 1 (pk (fixAll zs)) { ic0 [] with st := 11, last := true, lc := { lc0 0 with i := 3 } } = fixedCodesS { ic0 [] with st := 11, last := true, lc := { lc0 0 with i := 3 } } := by simp [istep0]
    rw [e]
    rfl
  obtain ⟨cf, hE, hL⟩ := fx_from zs hz hl zs.length 0 { ic0 [] with st := 12, last := true, lc := { lc0 0 with i := 3 }, fx := true, ul := F288, ud := F32 } (by omega) ⟨rfl, rfl, rfl, rfl, rfl⟩
  exact ⟨cf, .more (show (7 : Nat) ≤ 15 by decide) s1 (.more (show (11 : Nat) ≤ 15 by decide) s2 hE), hL⟩

/-! ### STORED -/
theorem field_at {A : List Int} (hA : Octets A) (p n : Nat) (h : p ≤ A.length) : field (bnum A) (8 * p) n = bnum (A.drop p) % 2 ^ n := by
  rw [← field_drop A hA (8 * p) n (by omega), show 8 * p / 8 = p by omega, show 8 * p % 8 = 0 by omega]
  unfold field
  rw [Nat.pow_zero, Nat.div_one]
/-- One stored block. -/
theorem st_block (s : Nat) (A pre d post o : List Int) (l : Nat) (hA : Octets A) (hl : l ≤ 1) (hd : d.length ≤ 65535) (ho : o.length + d.length ≤ 100000) (hc : A = pre ++ (blkS (l : Int) d ++ post)) (c : IC) (h1 : c.st = 7) (h2 : c.lc.i = 8 * pre.length) (h3 : c.out = o) :
    ∃ c', c'.st = 8 ∧ c'.last = decide (l = 1) ∧ c'.lc.i = 8 * (pre.length + 5 + d.length) ∧ c'.out = o ++ d ∧ ∀ k cf, IEnds s A c' k cf → IEnds s A c k cf := by
  have hlen : A.length = pre.length + (5 + d.length + post.length) := by
    rw [hc]
    simp only [List.length_append, blkS_len]
    omega
  have hdrop : A.drop pre.length = blkS (l : Int) d ++ post := by rw [hc, List.drop_left]
  have hdrop1 : A.drop (pre.length + 1) = ((d.length % 256 : Nat) : Int) :: ((d.length / 256 % 256 : Nat) : Int) :: ((255 - d.length % 256 : Nat) : Int) :: ((255 - d.length / 256 % 256 : Nat) : Int) :: (d ++ post) := by
    rw [← List.drop_drop, hdrop]
    rfl
  have hdrop5 : A.drop (pre.length + 5) = d ++ post := by
    rw [← List.drop_drop, hdrop]
    rfl
  have hf1 : field (bnum A) c.lc.i 3 = l := by
    rw [h2, field_at hA _ _ (by omega), hdrop]
    show bnum ((l : Int) :: _) % 2 ^ 3 = l
    rw [bnum, Int.toNat_natCast, show (2 : Nat) ^ 3 = 8 from rfl]
    omega
  have s1 : istep0 s A c = .inl { c with st := 9, last := decide (l = 1), lc := { c.lc with i := 8 * (pre.length + 1) } } := by
    have e : istep0 s A c = blockHeadS A c := by simp [istep0, h1]
    rw [e]
    unfold blockHeadS
    rw [hf1, if_pos (by omega), if_pos (by omega), show l % 2 = l by omega, h2, show (8 * pre.length + 3 + 7) / 8 * 8 = 8 * (pre.length + 1) by omega]
  have hf2 : field (bnum A) (8 * (pre.length + 1)) 32 = d.length + 65536 * (65535 - d.length) := by
    rw [field_at hA _ _ (by omega), hdrop1, bnum, bnum, bnum, bnum, show (2 : Nat) ^ 32 = 4294967296 from rfl]
    simp only [Int.toNat_natCast]
    obtain ⟨a, ha⟩ : ∃ a, d.length % 256 = a := ⟨_, rfl⟩
    obtain ⟨b, hb⟩ : ∃ b, d.length / 256 % 256 = b := ⟨_, rfl⟩
    have hn : d.length = a + 256 * b := by omega
    have ha2 : a ≤ 255 := by omega
    have hb2 : b ≤ 255 := by omega
    rw [ha, hb]
    generalize bnum (d ++ post) = y
    have e : a + 256 * (b + 256 * (255 - a + 256 * (255 - b + 256 * y))) = (d.length + 65536 * (65535 - d.length)) + 4294967296 * y := by omega
    rw [e, Nat.add_mul_mod_self_left, Nat.mod_eq_of_lt (by omega)]
  generalize hc1 : ({ c with st := 9, last := decide (l = 1), lc := { c.lc with i := 8 * (pre.length + 1) } } : IC) = c1 at s1
  have e1i : c1.lc.i = 8 * (pre.length + 1) := by rw [← hc1]
  have s2 : istep0 s A c1 = .inl { c1 with st := 10, stored := d.length, lc := { c1.lc with i := 8 * (pre.length + 5) } } := by
    have e : istep0 s A c1 = storedHeadS A c1 := by rw [← hc1]; simp [istep0]
    rw [e]
    unfold storedHeadS
    rw [e1i, hf2, if_pos (by omega), if_pos (by omega), show (d.length + 65536 * (65535 - d.length)) % 65536 = d.length by omega, show 8 * (pre.length + 1) + 32 = 8 * (pre.length + 5) by omega]
  generalize hc2 : ({ c1 with st := 10, stored := d.length, lc := { c1.lc with i := 8 * (pre.length + 5) } } : IC) = c2 at s2
  have st0 : c.st ≤ 15 := by rw [h1]; decide
  have st1 : c1.st ≤ 15 := by rw [← hc1]; show (9 : Nat) ≤ 15; decide
  have st2 : c2.st ≤ 15 := by rw [← hc2]; show (10 : Nat) ≤ 15; decide
  have e2i : c2.lc.i = 8 * (pre.length + 5) := by rw [← hc2]
  have e2s : c2.stored = d.length := by rw [← hc2]
  have e2o : c2.out = o := by rw [← hc2, ← hc1]; exact h3
  have e2l : c2.last = decide (l = 1) := by rw [← hc2, ← hc1]
  have e2t : c2.st = 10 := by rw [← hc2]
  have es : istep0 s A c2 = storedBytesS s A c2 := by simp [istep0, e2t]
  by_cases h0 : d.length = 0
  · have s3 : istep0 s A c2 = .inl { c2 with st := 8 } := by
      rw [es]
      unfold storedBytesS
      rw [if_pos (by rw [e2s]; exact h0)]
    refine ⟨{ c2 with st := 8 }, rfl, e2l, ?_, ?_, fun k cf hE => .more st0 s1 (.more st1 s2 (.more st2 s3 hE))⟩
    · show c2.lc.i = _
      rw [e2i, h0, Nat.add_zero]
    · show c2.out = _
      rw [e2o, List.eq_nil_of_length_eq_zero h0, List.append_nil]
  · have hst : stN A c2 = d.length := by
      unfold stN
      rw [e2s, e2i, e2o, hlen]
      omega
    have s3 : istep0 s A c2 = .inl (tellC s { c2 with stored := 0, lc := { c2.lc with i := 8 * (pre.length + 5 + d.length) } } d) := by
      rw [es]
      unfold storedBytesS
      rw [if_neg (by rw [e2s]; exact h0), hst, e2i, if_pos (by omega), if_neg (by rw [e2o]; omega), e2s, Nat.sub_self, show 8 * (pre.length + 5) / 8 = pre.length + 5 by omega, hdrop5, List.take_left, show 8 * (pre.length + 5) + 8 * d.length = 8 * (pre.length + 5 + d.length) by omega]
    generalize hc3 : tellC s { c2 with stored := 0, lc := { c2.lc with i := 8 * (pre.length + 5 + d.length) } } d = c3 at s3
    have e3t : c3.st = 10 := by rw [← hc3]; exact e2t
    have s4 : istep0 s A c3 = .inl { c3 with st := 8 } := by
      have e : istep0 s A c3 = storedBytesS s A c3 := by simp [istep0, e3t]
      rw [e]
      unfold storedBytesS
      rw [if_pos (by rw [← hc3]; rfl)]
    refine ⟨{ c3 with st := 8 }, rfl, ?_, ?_, ?_, fun k cf hE => .more st0 s1 (.more st1 s2 (.more st2 s3 (.more (by rw [e3t]; decide) s4 hE)))⟩
    · show c3.last = _
      rw [← hc3]
      exact e2l
    · show c3.lc.i = _
      rw [← hc3]
      rfl
    · show c3.out = _
      rw [← hc3]
      show c2.out ++ d = _
      rw [e2o]
theorem st_from (s per : Nat) (h0 : 0 < per) (hp : per ≤ 65535) (A : List Int) (hA : Octets A) : ∀ (n : Nat) (rest pre o : List Int) (c : IC), rest.length ≤ n → A = pre ++ encS per rest → o.length + rest.length ≤ 100000 → c.st = 7 → c.lc.i = 8 * pre.length → c.out = o → ∃ cf, IEnds s A c 1 cf ∧ cf.out = o ++ rest ∧ cf.lc.i = 8 * A.length := by
  intro n
  induction n with
  | zero =>
    intro rest pre o c hn hc ho h1 h2 h3
    have e : rest = [] := List.eq_nil_of_length_eq_zero (by omega)
    subst e
    rw [encS_last (by simp)] at hc
    obtain ⟨c', g1, g2, g3, g4, g5⟩ := st_block s A pre [] [] o 1 hA (by decide) (by simp) ho (by rw [List.append_nil]; exact hc) c h1 h2 h3
    have s1 : istep0 s A c' = .inl { c' with st := 16 } := by
      have e : istep0 s A c' = blockEndS c' := by simp [istep0, g1]
      rw [e]
      unfold blockEndS
      rw [if_pos (by rw [g2]; decide)]
    refine ⟨{ c' with st := 16 }, g5 _ _ (.more (by rw [g1]; decide) s1 (.fin (show ¬ (16 : Nat) ≤ 15 by decide))), g4, ?_⟩
    show c'.lc.i = _
    rw [g3, hc]
    simp only [List.length_append, blkS_len, List.length_nil]
  | succ n ih =>
    intro rest pre o c hn hc ho h1 h2 h3
    by_cases hr : rest.length ≤ per
    · rw [encS_last hr] at hc
      obtain ⟨c', g1, g2, g3, g4, g5⟩ := st_block s A pre rest [] o 1 hA (by decide) (by omega) ho (by rw [List.append_nil]; exact hc) c h1 h2 h3
      have s1 : istep0 s A c' = .inl { c' with st := 16 } := by
        have e : istep0 s A c' = blockEndS c' := by simp [istep0, g1]
        rw [e]
        unfold blockEndS
        rw [if_pos (by rw [g2]; decide)]
      refine ⟨{ c' with st := 16 }, g5 _ _ (.more (by rw [g1]; decide) s1 (.fin (show ¬ (16 : Nat) ≤ 15 by decide))), g4, ?_⟩
      show c'.lc.i = _
      rw [g3, hc]
      simp only [List.length_append, blkS_len]
      omega
    · rw [encS_more h0 (by omega)] at hc
      have htl : (rest.take per).length = per := by rw [List.length_take]; omega
      obtain ⟨c', g1, g2, g3, g4, g5⟩ := st_block s A pre (rest.take per) (encS per (rest.drop per)) o 0 hA (by decide) (by omega) (by omega) hc c h1 h2 h3
      have s1 : istep0 s A c' = .inl { c' with st := 7 } := by
        have e : istep0 s A c' = blockEndS c' := by simp [istep0, g1]
        rw [e]
        unfold blockEndS
        rw [if_neg (by rw [g2]; decide)]
      obtain ⟨cf, e1, e2, e3⟩ := ih (rest.drop per) (pre ++ blkS 0 (rest.take per)) (o ++ rest.take per) { c' with st := 7 } (by rw [List.length_drop]; omega) (by rw [List.append_assoc]; exact hc) (by rw [List.length_append, List.length_drop, htl]; omega) rfl (by show c'.lc.i = _; rw [g3, List.length_append, blkS_len]; omega) g4
      refine ⟨cf, g5 _ _ (.more (by rw [g1]; decide) s1 e1), ?_, e3⟩
      rw [e2, List.append_assoc, List.take_append_drop]
theorem st_all (s per : Nat) (h0 : 0 < per) (hp : per ≤ 65535) (zs : List Int) (hl : zs.length ≤ 1000) (hA : Octets (encS per zs)) : ∃ cf, IEnds s (encS per zs) (ic0 []) 1 cf ∧ cf.out = zs ∧ cf.lc.i = 8 * (encS per zs).length := by
  obtain ⟨cf, e1, e2, e3⟩ := st_from s per h0 hp (encS per zs) hA zs.length zs [] [] (ic0 []) (Nat.le_refl _) rfl (by simp; omega) rfl rfl rfl
  exact ⟨cf, e1, by rw [e2]; rfl, e3⟩
end Go.Proofs.YtbddkkfakkedaaaGreatDoor
/-
  FIXED CODE IN THE MIDDLE OF A TEXT COMES BACK. No program.
-/
namespace Go.Proofs.YtbddkkfakkedaaaGreatDoor
open Go.RowKit
set_option linter.unusedVariables false

/-- From byte p on the text's bits begin with L. -/
def HoldsAt (A : List Int) (p : Nat) (L : List Nat) : Prop := (∃ X, bnum A / 2 ^ (8 * p) = bval L + 2 ^ L.length * X) ∧ 8 * p + L.length ≤ 8 * A.length
theorem holds_pk (pre post : List Int) (L : List Nat) (hL : Bin L) (hp : Octets pre) : HoldsAt (pre ++ (pk L ++ post)) pre.length L := by
  have hlen := pk_len L
  refine ⟨⟨2 ^ (8 * (pk L).length - L.length) * bnum post, ?_⟩, ?_⟩
  · have hlt := bnum_lt pre hp
    rw [p256] at hlt
    rw [bnum_append, p256, Nat.add_mul_div_left _ _ (Nat.two_pow_pos _), Nat.div_eq_of_lt hlt, Nat.zero_add, bnum_append, bnum_pk L hL, p256, ← Nat.mul_assoc, ← Nat.pow_add, show L.length + (8 * (pk L).length - L.length) = 8 * (pk L).length by omega]
  · simp only [List.length_append]
    omega
theorem holds_rest {A : List Int} {p : Nat} {L M : List Nat} (h : HoldsAt A p (L ++ M)) (hL : Bin L) : ∃ X, bnum A / 2 ^ (8 * p + L.length) = bval M + 2 ^ M.length * X := by
  obtain ⟨⟨X, hX⟩, _⟩ := h
  refine ⟨X, ?_⟩
  rw [Nat.pow_add, ← Nat.div_div_eq_div_mul, hX, bval_app, List.length_append, Nat.pow_add, Nat.mul_assoc, Nat.add_assoc, ← Nat.mul_add, Nat.add_mul_div_left _ _ (Nat.two_pow_pos _), Nat.div_eq_of_lt (bval_lt hL), Nat.zero_add]
theorem nx3_hold {ls : List Int} (hok : okC ls = true) (hss : SS ls 15 ≤ 32768) {S : Nat} (hc : Coded ls S) {A : List Int} {p : Nat} {L R : List Nat} (hL : Bin L) (h : HoldsAt A p (L ++ (bitsOf (cb ls S) (ln ls S) ++ R))) {i : Nat} (hi : i = 8 * p + L.length) :
    nx3 ls (field (bnum A) i (Nat.min (8 * A.length - i) 15)) (Nat.min (8 * A.length - i) 15) = (1, S, ln ls S) := by
  subst hi
  obtain ⟨X, hX⟩ := holds_rest h hL
  have h15 := hc.most
  have hr := h.2
  simp only [List.length_append, bitsOf_len] at hr
  have hmin : ln ls S ≤ Nat.min (8 * A.length - (8 * p + L.length)) 15 := by
    show _ ≤ min _ _
    omega
  have hmin2 : Nat.min (8 * A.length - (8 * p + L.length)) 15 ≤ 15 := Nat.min_le_right _ _
  generalize Nat.min (8 * A.length - (8 * p + L.length)) 15 = n at *
  refine nx3_code hok hss hc hmin (by omega) ?_
  unfold field
  rw [hX, mod_mod _ _ _ hmin, bval_app, bval_bitsOf, bitsOf_len, List.length_append, bitsOf_len, Nat.pow_add, Nat.mul_assoc, Nat.add_assoc, ← Nat.mul_add, Nat.add_mul_mod_self_left, Nat.mod_mod, Nat.mod_eq_of_lt (cb_lt ls S)]
/-- n steps of an inflater. -/
def RTo (s : Nat) (A : List Int) : Nat → IC → IC → Prop
  | 0, c, c' => c = c'
  | n + 1, c, c' => c.st ≤ 15 ∧ ∃ d, istep0 s A c = .inl d ∧ RTo s A n d c'
theorem RTo.step {s : Nat} {A : List Int} {c d c' : IC} {n : Nat} (h : c.st ≤ 15) (hs : istep0 s A c = .inl d) (h2 : RTo s A n d c') : RTo s A (n + 1) c c' := ⟨h, d, hs, h2⟩
theorem RTo.join {s : Nat} {A : List Int} {n m : Nat} {c d c' : IC} (h : RTo s A n c d) (h2 : RTo s A m d c') : RTo s A (n + m) c c' := by
  induction n generalizing c with
  | zero =>
    have e : c = d := h
    rw [e, Nat.zero_add]
    exact h2
  | succ n ih =>
    obtain ⟨h3, x, h4, h5⟩ := h
    rw [Nat.add_right_comm]
    exact ⟨h3, x, h4, ih h5⟩
/-- Behind m literals. -/
structure ZxAt (p : Nat) (o zs : List Int) (m : Nat) (c : IC) : Prop where
  st : c.st = 12
  i : c.lc.i = 8 * p + (fixB zs m).length
  ul : c.ul = F288
  last : c.last = true
  out : c.out = o ++ zs.take m
theorem zx_end (s p : Nat) (o zs A : List Int) (hA : HoldsAt A p (fixAll zs)) (c : IC) (h : ZxAt p o zs zs.length c) : ∃ n c', RTo s A n c c' ∧ c'.st = 16 ∧ c'.out = o ++ zs ∧ c'.lc.i = 8 * p + (fixAll zs).length := by
  have hx := nx3_hold F288_ok F288_ss coded_256 (L := fixB zs zs.length) (R := []) (fixB_bin _ _) (by rw [← fixAll_end]; exact hA) h.i
  rw [← h.ul] at hx
  have s1 := istep_lit (s := s) h.st hx
  unfold litU at s1
  rw [if_pos rfl, if_neg (by decide), if_pos rfl] at s1
  have s2 : istep0 s A { c with st := 8, lc := { c.lc with i := c.lc.i + ln c.ul 256 } } = .inl { c with st := 16, lc := { c.lc with i := c.lc.i + ln c.ul 256 } } := by
    have e : istep0 s A { c with st := 8, lc := { c.lc with i := c.lc.i + ln c.ul 256 } } = blockEndS { c with st := 8, lc := { c.lc with i := c.lc.i + ln c.ul 256 } } := by simp [istep0]
    rw [e]
    unfold blockEndS
    rw [if_pos h.last]
  refine ⟨2, { c with st := 16, lc := { c.lc with i := c.lc.i + ln c.ul 256 } }, .step (by rw [h.st]; decide) s1 (.step (show (8 : Nat) ≤ 15 by decide) s2 rfl), rfl, ?_, ?_⟩
  · show c.out = _
    rw [h.out, List.take_length]
  · show c.lc.i + ln c.ul 256 = _
    rw [h.ul, h.i, fixAll_end, List.length_append, List.append_nil, bitsOf_len, Nat.add_assoc]
theorem zx_round (s p : Nat) (o zs A : List Int) (hA : HoldsAt A p (fixAll zs)) (hz : Octets zs) (hl : o.length + zs.length ≤ 100000) (m : Nat) (hm : m < zs.length) (c : IC) (h : ZxAt p o zs m c) : ∃ c', ZxAt p o zs (m + 1) c' ∧ RTo s A 1 c c' := by
  have hg := hz.getD m
  obtain ⟨S, hS⟩ : ∃ S : Nat, zs.getD m 0 = (S : Int) := ⟨(zs.getD m 0).toNat, by omega⟩
  have hS2 : S < 256 := by omega
  obtain ⟨R, hR, hc⟩ := fixAll_cut zs m hm S hS hS2
  have hx := nx3_hold F288_ok F288_ss (codedF (S := S) (by omega)) (L := fixB zs m) (R := R) (fixB_bin _ _) (by rw [← hc]; exact hA) h.i
  rw [← h.ul] at hx
  have s1 := istep_lit (s := s) h.st hx
  unfold litU at s1
  have hol : ¬ 100000 < c.out.length + 1 := by rw [h.out, List.length_append, List.length_take]; omega
  rw [if_pos rfl, if_pos hS2, if_neg hol] at s1
  refine ⟨_, ?_, .step (by rw [h.st]; decide) s1 rfl⟩
  refine ⟨h.st, ?_, h.ul, h.last, ?_⟩
  · show c.lc.i + ln c.ul S = _
    rw [h.ul, h.i, fixB, hS, Int.toNat_natCast, cbits_cb (codedF (by omega)), List.length_append, bitsOf_len, Nat.add_assoc]
  · show c.out ++ [(S : Int)] = _
    rw [h.out, List.append_assoc, List.take_add_one, ← hS, List.getD_eq_getElem?_getD, List.getElem?_eq_getElem hm]
    rfl
theorem zx_from (s p : Nat) (o zs A : List Int) (hA : HoldsAt A p (fixAll zs)) (hz : Octets zs) (hl : o.length + zs.length ≤ 100000) : ∀ j m c, m + j = zs.length → ZxAt p o zs m c → ∃ n c', RTo s A n c c' ∧ c'.st = 16 ∧ c'.out = o ++ zs ∧ c'.lc.i = 8 * p + (fixAll zs).length := by
  intro j
  induction j with
  | zero =>
    intro m c hj h
    have e : m = zs.length := by omega
    subst e
    exact zx_end s p o zs A hA c h
  | succ j ih =>
    intro m c hj h
    obtain ⟨c', h', hE⟩ := zx_round s p o zs A hA hz hl m (by omega) c h
    obtain ⟨n, cf, e1, e2⟩ := ih (m + 1) c' (by omega) h'
    exact ⟨1 + n, cf, hE.join e1, e2⟩
/-- A block's head, the literals, the end. -/
theorem zx_all (s p : Nat) (o zs A : List Int) (hA : HoldsAt A p (fixAll zs)) (hz : Octets zs) (hl : o.length + zs.length ≤ 100000) (c : IC) (h1 : c.st = 7) (h2 : c.lc.i = 8 * p) (h3 : c.out = o) : ∃ n c', RTo s A n c c' ∧ c'.st = 16 ∧ c'.out = o ++ zs ∧ c'.lc.i = 8 * p + (fixAll zs).length := by
  obtain ⟨R, hR, hc⟩ := fixB_tail zs 0 zs.length
  rw [Nat.zero_add, fixB_zero] at hc
  have hcut : fixAll zs = [1, 1, 0] ++ (R ++ cbits 256) := by unfold fixAll; rw [hc, List.append_assoc]
  have hlen : 3 ≤ (fixAll zs).length := by rw [hcut, List.length_append]; show 3 ≤ 3 + _; omega
  have hroom := hA.2
  have hf : field (bnum A) (8 * p) 3 = 3 := by
    obtain ⟨⟨X, hX⟩, _⟩ := hA
    unfold field
    rw [hX, hcut, bval_app, List.length_append, Nat.pow_add, Nat.mul_assoc, Nat.add_assoc, ← Nat.mul_add]
    show (3 + 2 ^ 3 * _) % 2 ^ 3 = 3
    rw [Nat.add_mul_mod_self_left]
  have s1 : istep0 s A c = .inl { c with st := 11, last := true, lc := { c.lc with i := 8 * p + 3 } } := by
    have e : istep0 s A c = blockHeadS A c := by simp [istep0, h1]
    rw [e]
    unfold blockHeadS
    rw [h2, hf, if_pos (by omega), if_neg (by decide), if_pos (by decide)]
    rfl
  have s2 : istep0 s A { c with st := 11, last := true, lc := { c.lc with i := 8 * p + 3 } } = .inl { c with st := 12, last := true, lc := { c.lc with i := 8 * p + 3 }, fx := true, ul := F288, ud := F32 } := by
    have e : istep0 s A { c with st := 11, last := true, lc := { c.lc with i := 8 * p + 3 } } = fixedCodesS { c with st := 11, last := true, lc := { c.lc with i := 8 * p + 3 } } := by simp [istep0]
    rw [e]
    rfl
  obtain ⟨n, cf, hE, hL⟩ := zx_from s p o zs A hA hz hl zs.length 0 { c with st := 12, last := true, lc := { c.lc with i := 8 * p + 3 }, fx := true, ul := F288, ud := F32 } (by omega) ⟨rfl, rfl, rfl, rfl, by show c.out = _; rw [h3, List.take_zero, List.append_nil]⟩
  exact ⟨n + 1 + 1, cf, .step (by rw [h1]; decide) s1 (.step (show (11 : Nat) ≤ 15 by decide) s2 hE), hL⟩
end Go.Proofs.YtbddkkfakkedaaaGreatDoor
