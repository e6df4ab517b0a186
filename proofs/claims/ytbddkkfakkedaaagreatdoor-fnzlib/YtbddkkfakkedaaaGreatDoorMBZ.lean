import Derived.Test.YtbddkkfakkedaaaGreatDoorMAX
import Derived.Test.YtbddkkfakkedaaaGreatDoorMBY
/-
  A ZLIB CODE COMES BACK: where the frame's steps lead. No program.
-/
namespace Go.Proofs.YtbddkkfakkedaaaGreatDoor
open Go.RowKit
set_option linter.unusedVariables false

section
variable {C : Type}
theorem Ends.det {now : C → Option (Nat × Array Value)} {step : C → C ⊕ (Int × C)} {c cf cf' : C} {k k' : Int} (h : Ends now step c k cf) (h' : Ends now step c k' cf') : k = k' ∧ cf = cf' := by
  obtain ⟨n, hn⟩ := h
  obtain ⟨m, hm⟩ := h'
  induction n generalizing c m with
  | zero => exact hn.elim
  | succ n ih =>
    cases m with
    | zero => exact hm.elim
    | succ m =>
      rcases hn with ⟨h1, rfl, rfl⟩ | ⟨h1, hs⟩ | ⟨h1, c1, hs, h3⟩
      · rcases hm with ⟨_, rfl, rfl⟩ | ⟨h2, _⟩ | ⟨h2, _⟩
        · exact ⟨rfl, rfl⟩
        · exact absurd h1 h2
        · exact absurd h1 h2
      · rcases hm with ⟨h2, _⟩ | ⟨_, hs2⟩ | ⟨_, c2, hs2, _⟩
        · exact absurd h2 h1
        · rw [hs] at hs2
          injection hs2 with e
          injection e with e1 e2
          exact ⟨e1, e2⟩
        · rw [hs] at hs2
          cases hs2
      · rcases hm with ⟨h2, _⟩ | ⟨_, hs2⟩ | ⟨_, c2, hs2, h4⟩
        · exact absurd h2 h1
        · rw [hs] at hs2
          cases hs2
        · rw [hs] at hs2
          injection hs2 with e
          subst e
          exact ih h3 m h4
end
theorem RTo.det {s : Nat} {A : List Int} {n m : Nat} {c x y : IC} (h : RTo s A n c x) (h2 : RTo s A m c y) (hx : x.st = 16) (hy : y.st = 16) : x = y := by
  induction n generalizing c m with
  | zero =>
    have e : c = x := h
    subst e
    cases m with
    | zero => exact h2
    | succ m => obtain ⟨h3, _⟩ := h2; omega
  | succ n ih =>
    obtain ⟨h3, d, h4, h5⟩ := h
    cases m with
    | zero =>
      have e : c = y := h2
      subst e
      omega
    | succ m =>
      obtain ⟨_, d', h4', h5'⟩ := h2
      rw [h4] at h4'
      injection h4' with e
      subst e
      exact ih h5 h5'
theorem znow_inf (z q s : Nat) (c : IC) : znow z q ⟨2, s, c, false⟩ ≠ none := by
  unfold znow
  by_cases h : c.st ≤ 15 <;> simp [h]
/-- The inflater's steps are the frame's. -/
theorem zs_path {z q s : Nat} {A d : List Int} (hzl : A.length ≤ 65536) {n : Nat} {c c' : IC} (h : RTo s A n c c') (hok : ZOK A d ⟨2, s, c, false⟩) {k : Int} {cf : ZC} (hE : ZOK A d ⟨2, s, c', false⟩ → Ends (znow z q) (zstep A d) ⟨2, s, c', false⟩ k cf) : Ends (znow z q) (zstep A d) ⟨2, s, c, false⟩ k cf := by
  induction n generalizing c with
  | zero =>
    have e : c = c' := h
    subst e
    exact hE hok
  | succ n ih =>
    obtain ⟨h15, x, hx, h2⟩ := h
    have hs : zstep0 A d ⟨2, s, c, false⟩ = .inl ⟨2, s, x, false⟩ := by
      unfold zstep0
      rw [if_neg (by show ¬ (2 : Nat) = 0; omega), if_neg (by show ¬ (2 : Nat) = 1; omega), if_pos rfl, if_pos h15, hx]
    exact .more (znow_inf z q s c) (zstep_go hzl hok rfl hs) (ih h2 (zstep_ok hzl hok rfl hs).1)
theorem field_mid (pre M post : List Int) (hp : Octets pre) (hM : Octets M) : field (bnum (pre ++ (M ++ post))) (8 * pre.length) (8 * M.length) = bnum M := by
  have h1 := bnum_lt pre hp
  have h2 := bnum_lt M hM
  rw [p256] at h1 h2
  unfold field
  rw [bnum_append, p256, Nat.add_mul_div_left _ _ (Nat.two_pow_pos _), Nat.div_eq_of_lt h1, Nat.zero_add, bnum_append, p256, Nat.add_mul_mod_self_left, Nat.mod_eq_of_lt h2]
theorem bnum_low4 (V : Nat) (h : V < 4294967296) : bnum (lowB V 4) = V := by
  have e : lowB V 4 = [((V % 256 : Nat) : Int), ((V / 256 % 256 : Nat) : Int), ((V / 65536 % 256 : Nat) : Int), ((V / 16777216 % 256 : Nat) : Int)] := by
    simp [lowB, List.range_succ]
  rw [e]
  simp only [bnum, Int.toNat_natCast]
  have := digits4 V h
  omega
/-- What the head says. -/
theorem zhd_says : ∀ I, I < 8 → ∀ dc : Bool, zbad (zhd I dc / 256 + 256 * (zhd I dc % 256)) = false ∧ zsz (zhd I dc / 256 + 256 * (zhd I dc % 256)) = 2 ^ (I + 8) ∧ zdic (zhd I dc / 256 + 256 * (zhd I dc % 256)) = dc := by decide
theorem zhd_oct (I : Nat) (dc : Bool) (h : I < 8) : Octets [((zhd I dc / 256 : Nat) : Int), ((zhd I dc % 256 : Nat) : Int)] := by
  have := zhd_lt I dc (by omega)
  intro x hx
  simp only [List.mem_cons, List.not_mem_nil, or_false] at hx
  rcases hx with rfl | rfl <;> omega
def zh2 (I : Nat) (dc : Bool) : List Int := [((zhd I dc / 256 : Nat) : Int), ((zhd I dc % 256 : Nat) : Int)]
theorem zh2_field (I : Nat) (dc : Bool) (h : I < 8) (R : List Int) : field (bnum (zh2 I dc ++ R)) 0 16 = zhd I dc / 256 + 256 * (zhd I dc % 256) := by
  have h1 := field_mid [] (zh2 I dc) R (fun x hx => by cases hx) (zhd_oct I dc h)
  have e : bnum (zh2 I dc) = zhd I dc / 256 + 256 * (zhd I dc % 256) := by
    show (((zhd I dc / 256 : Nat) : Int)).toNat + 256 * ((((zhd I dc % 256 : Nat) : Int)).toNat + 256 * 0) = _
    rw [Int.toNat_natCast, Int.toNat_natCast]
    omega
  rw [e] at h1
  exact h1
theorem zcode_no (I : Nat) (zs : List Int) : zcode I [] zs = zh2 I false ++ (pk (fixAll zs) ++ lowB (rb4 (Adl.adl zs).toNat) 4) := by
  unfold zcode zpre
  rw [if_pos rfl]
  rfl
theorem zcode_yes (I : Nat) (d zs : List Int) (h : d ≠ []) : zcode I d zs = zh2 I true ++ (lowB (rb4 (Adl.adl d).toNat) 4 ++ (pk (fixAll zs) ++ lowB (rb4 (Adl.adl zs).toNat) 4)) := by
  unfold zcode zpre
  rw [if_neg h, List.append_assoc]
  rfl
theorem rb_adl (zs : List Int) : ((rb4 (bnum (lowB (rb4 (Adl.adl zs).toNat) 4)) : Nat) : Int) = Adl.adl zs := by
  have h := adl_bd zs
  rw [bnum_low4 _ (rb4_lt _), rb4_rb4 _ (by omega)]
  omega
theorem adl_one (d : List Int) : Adl.adl (d ++ [1]) ≠ Adl.adl d := by
  intro e
  have h1 := (adl_lo (d ++ [1])).1
  have h2 := (adl_lo d).1
  have hb := Adl.up_bd 1 0 d (by omega)
  rw [e, h2, Adl.up_append] at h1
  simp only [Adl.up] at h1
  omega
/-- The sum behind the code: the end. -/
theorem zl_sum {z q s : Nat} {pre A e zs : List Int} (hA : A = pre ++ (pk (fixAll zs) ++ lowB (rb4 (Adl.adl zs).toNat) 4)) (hp : Octets pre) (hl : A.length ≤ 65536) (c : IC) (h16 : c.st = 16) (ho : c.out = zs) (hi : c.lc.i = 8 * pre.length + (fixAll zs).length) (hok : ZOK A e ⟨2, s, c, false⟩) : ∃ cf, Ends (znow z q) (zstep A e) ⟨2, s, c, false⟩ 1 cf ∧ cf.ic.out = zs ∧ zRes 1 cf = (A.length : Int) := by
  have hpk := pk_len (fixAll zs)
  have hj : (c.lc.i + 7) / 8 * 8 = 8 * (pre ++ pk (fixAll zs)).length := by rw [hi, List.length_append, hpk]; omega
  have hAl : A.length = pre.length + (pk (fixAll zs)).length + 4 := by rw [hA]; simp only [List.length_append, lowB_len]; omega
  have hf : field (bnum A) (8 * (pre ++ pk (fixAll zs)).length) 32 = bnum (lowB (rb4 (Adl.adl zs).toNat) 4) := by
    have h1 := field_mid (pre ++ pk (fixAll zs)) (lowB (rb4 (Adl.adl zs).toNat) 4) [] (fun x hx => by
      rcases List.mem_append.1 hx with h | h
      · exact hp x h
      · exact pk_octets _ (fixAll_bin zs) x h) (lowB_oct _ _)
    rw [lowB_len, List.append_nil, List.append_assoc, ← hA] at h1
    exact h1
  have hs : zstep0 A e ⟨2, s, c, false⟩ = .inl ⟨3, s, icTo c ((c.lc.i + 7) / 8 * 8 + 32), false⟩ := by
    unfold zstep0
    rw [if_neg (by show ¬ (2 : Nat) = 0; omega), if_neg (by show ¬ (2 : Nat) = 1; omega), if_pos rfl, if_neg (by show ¬ c.st ≤ 15; omega)]
    show (if (c.lc.i + 7) / 8 * 8 + 32 ≤ 8 * A.length then _ else _) = _
    rw [if_pos (by rw [hj, List.length_append]; omega)]
    show (if ((rb4 (field (bnum A) ((c.lc.i + 7) / 8 * 8) 32) : Nat) : Int) = Adl.adl c.out then _ else _) = _
    rw [hj, hf, ho, if_pos (rb_adl zs)]
  refine ⟨_, .more (znow_inf z q s c) (zstep_go hl hok rfl hs) (.fin (by unfold znow; simp)), ho, ?_⟩
  unfold zRes
  rw [if_pos rfl]
  show (((((c.lc.i + 7) / 8 * 8 + 32) / 8 : Nat)) : Int) = _
  rw [hj, hAl, List.length_append]
  omega
/-- From where inflating begins. -/
theorem zl_inf {s : Nat} {pre A zs t : List Int} (hA : A = pre ++ (pk (fixAll zs) ++ lowB (rb4 (Adl.adl zs).toNat) 4)) (hp : Octets pre) (hz : Octets zs) (hzl : zs.length ≤ 1000) : ∃ n c, RTo s A n (icA (8 * pre.length) t) c ∧ c.st = 16 ∧ c.out = zs ∧ c.lc.i = 8 * pre.length + (fixAll zs).length := by
  have hh := holds_pk pre (lowB (rb4 (Adl.adl zs).toNat) 4) (fixAll zs) (fixAll_bin zs) hp
  rw [← hA] at hh
  obtain ⟨n, c, h1, h2, h3, h4⟩ := zx_all s pre.length [] zs A hh hz (by show 0 + _ ≤ _; omega) (icA (8 * pre.length) t) rfl rfl rfl
  exact ⟨n, c, h1, h2, h3, h4⟩
theorem znow_head (z q : Nat) : znow z q zc0 ≠ none := by
  unfold znow zc0
  simp
theorem fixAll_len (zs : List Int) (h : zs.length ≤ 1000) : (fixAll zs).length ≤ 10000 := by
  unfold fixAll
  have h1 := fixB_len zs zs.length
  have h2 := cbits_len 256
  rw [List.length_append]
  omega
theorem zcode_len (I : Nat) (d zs : List Int) (h : zs.length ≤ 1000) : (zcode I d zs).length ≤ 2000 := by
  have h1 := fixAll_len zs h
  have h2 := pk_len (fixAll zs)
  by_cases hd : d = []
  · rw [hd, zcode_no]
    simp only [List.length_append, lowB_len, zh2, List.length_cons, List.length_nil]
    omega
  · rw [zcode_yes I d zs hd]
    simp only [List.length_append, lowB_len, zh2, List.length_cons, List.length_nil]
    omega
theorem zcode_oct (I : Nat) (d zs : List Int) (hI : I < 8) : Octets (zcode I d zs) := by
  have ap : ∀ x y : List Int, Octets x → Octets y → Octets (x ++ y) := fun x y hx hy v hv => by
    rcases List.mem_append.1 hv with h | h
    · exact hx v h
    · exact hy v h
  by_cases hd : d = []
  · rw [hd, zcode_no]
    exact ap _ _ (zhd_oct I false hI) (ap _ _ (pk_octets _ (fixAll_bin zs)) (lowB_oct _ _))
  · rw [zcode_yes I d zs hd]
    exact ap _ _ (zhd_oct I true hI) (ap _ _ (lowB_oct _ _) (ap _ _ (pk_octets _ (fixAll_bin zs)) (lowB_oct _ _)))
theorem zs_okpath {s : Nat} {A e : List Int} (hl : A.length ≤ 65536) {c : IC} : ∀ n (x : IC), RTo s A n x c → ZOK A e ⟨2, s, x, false⟩ → ZOK A e ⟨2, s, c, false⟩ := by
  intro n
  induction n with
  | zero =>
    intro x h hx
    have ee : x = c := h
    rw [← ee]
    exact hx
  | succ n ih =>
    intro x h hx
    obtain ⟨h15, y, hy, h2⟩ := h
    refine ih y h2 (zstep_ok (c := ⟨2, s, x, false⟩) hl hx rfl ?_).1
    unfold zstep0
    rw [if_neg (by show ¬ (2 : Nat) = 0; omega), if_neg (by show ¬ (2 : Nat) = 1; omega), if_pos rfl, if_pos h15, hy]
/-- From where inflating begins, to the end. -/
theorem zl_rest {z q s : Nat} {pre A e zs t : List Int} (hA : A = pre ++ (pk (fixAll zs) ++ lowB (rb4 (Adl.adl zs).toNat) 4)) (hp : Octets pre) (hz : Octets zs) (hzl : zs.length ≤ 1000) (hl : A.length ≤ 65536) (hok : ZOK A e ⟨2, s, icA (8 * pre.length) t, false⟩) : ∃ cf, Ends (znow z q) (zstep A e) ⟨2, s, icA (8 * pre.length) t, false⟩ 1 cf ∧ cf.ic.out = zs ∧ zRes 1 cf = (A.length : Int) := by
  obtain ⟨n, c, r1, r2, r3, r4⟩ := zl_inf (s := s) (t := t) hA hp hz hzl
  obtain ⟨cf, e1, e2⟩ := zl_sum (z := z) (q := q) hA hp hl c r2 r3 r4 (zs_okpath hl n _ r1 hok)
  exact ⟨cf, zs_path hl r1 hok (fun _ => e1), e2⟩
/-- The head is read: no dictionary. -/
theorem zl_plain (z q I : Nat) (hI : I < 8) (e zs : List Int) (hz : Octets zs) (hzl : zs.length ≤ 1000) : ∃ cf, Ends (znow z q) (zstep (zcode I [] zs) e) zc0 1 cf ∧ cf.ic.out = zs ∧ zRes 1 cf = ((zcode I [] zs).length : Int) := by
  have hlen := zcode_len I [] zs hzl
  have hA := zcode_no I zs
  obtain ⟨A, hAe⟩ : ∃ A, zcode I [] zs = A := ⟨_, rfl⟩
  rw [hAe] at hA hlen ⊢
  obtain ⟨h1, h2, h3⟩ := zhd_says I hI false
  rw [← zh2_field I false hI (pk (fixAll zs) ++ lowB (rb4 (Adl.adl zs).toNat) 4), ← hA] at h1 h2 h3
  have hlA : 2 ≤ A.length := by rw [hA, List.length_append]; show 2 ≤ 2 + _; omega
  have hs : zstep0 A e zc0 = .inl ⟨2, zsz (field (bnum A) 0 16), icA (8 * (zh2 I false).length) (lastN (zsz (field (bnum A) 0 16)) []), false⟩ := by
    unfold zstep0
    rw [if_pos (show zc0.ph = 0 from rfl), if_pos (by show 0 + 16 ≤ 8 * A.length; omega), if_neg (by show ¬ zbad (field (bnum A) 0 16) = true; rw [h1]; decide), if_neg (by show ¬ zdic (field (bnum A) 0 16) = true; rw [h3]; decide)]
    rfl
  have hok0 := zc0_ok A e
  obtain ⟨cf, e1, e2⟩ := zl_rest (z := z) (q := q) hA (zhd_oct I false hI) hz hzl (by omega) (zstep_ok (by omega) hok0 rfl hs).1
  exact ⟨cf, .more (znow_head z q) (zstep_go (by omega) hok0 rfl hs) e1, e2⟩
theorem zl_dict1 (I : Nat) (hI : I < 8) (d e zs A : List Int) (hA : A = zh2 I true ++ (lowB (rb4 (Adl.adl d).toNat) 4 ++ (pk (fixAll zs) ++ lowB (rb4 (Adl.adl zs).toNat) 4))) : zstep0 A e zc0 = .inl ⟨1, zsz (field (bnum A) 0 16), icA 16 [], false⟩ ∧ 48 ≤ 8 * A.length ∧ ((rb4 (field (bnum A) 16 32) : Nat) : Int) = Adl.adl d := by
  obtain ⟨h1, h2, h3⟩ := zhd_says I hI true
  rw [← zh2_field I true hI (lowB (rb4 (Adl.adl d).toNat) 4 ++ (pk (fixAll zs) ++ lowB (rb4 (Adl.adl zs).toNat) 4)), ← hA] at h1 h2 h3
  have hlA : 6 ≤ A.length := by rw [hA]; simp only [List.length_append, lowB_len]; show 6 ≤ 2 + _; omega
  refine ⟨?_, by omega, ?_⟩
  · unfold zstep0
    rw [if_pos (show zc0.ph = 0 from rfl), if_pos (by show 0 + 16 ≤ 8 * A.length; omega), if_neg (by show ¬ zbad (field (bnum A) 0 16) = true; rw [h1]; decide), if_pos (by show zdic (field (bnum A) 0 16) = true; exact h3)]
    rfl
  · have hf := field_mid (zh2 I true) (lowB (rb4 (Adl.adl d).toNat) 4) (pk (fixAll zs) ++ lowB (rb4 (Adl.adl zs).toNat) 4) (zhd_oct I true hI) (lowB_oct _ _)
    rw [lowB_len, ← hA] at hf
    have hf' : field (bnum A) 16 32 = bnum (lowB (rb4 (Adl.adl d).toNat) 4) := hf
    rw [hf', rb_adl]
theorem znow_d1 (z q s : Nat) (c : IC) : znow z q ⟨1, s, c, false⟩ ≠ none := by
  unfold znow
  simp
/-- The dictionary is the one. -/
theorem zl_same (z q I : Nat) (hI : I < 8) (d zs : List Int) (hd : d ≠ []) (hz : Octets zs) (hzl : zs.length ≤ 1000) : ∃ cf, Ends (znow z q) (zstep (zcode I d zs) d) zc0 1 cf ∧ cf.ic.out = zs ∧ zRes 1 cf = ((zcode I d zs).length : Int) := by
  have hlen := zcode_len I d zs hzl
  have hA := zcode_yes I d zs hd
  obtain ⟨A, hAe⟩ : ∃ A, zcode I d zs = A := ⟨_, rfl⟩
  rw [hAe] at hA hlen ⊢
  obtain ⟨hs, hl48, hsum⟩ := zl_dict1 I hI d d zs A hA
  have hok0 := zc0_ok A d
  have hok1 := (zstep_ok (by omega) hok0 rfl hs).1
  have hs2 : zstep0 A d ⟨1, zsz (field (bnum A) 0 16), icA 16 [], false⟩ = .inl ⟨2, zsz (field (bnum A) 0 16), icA (8 * (zh2 I true ++ lowB (rb4 (Adl.adl d).toNat) 4).length) (lastN (zsz (field (bnum A) 0 16)) d), false⟩ := by
    have h48 : 8 * (zh2 I true ++ lowB (rb4 (Adl.adl d).toNat) 4).length = 16 + 32 := by rw [List.length_append, lowB_len]; rfl
    rw [h48]
    unfold zstep0
    rw [if_neg (by show ¬ (1 : Nat) = 0; omega), if_pos (show (1 : Nat) = 1 from rfl), if_pos (by show 16 + 32 ≤ 8 * A.length; omega), if_neg (by
      rw [not_or]
      exact ⟨hd, by show ¬ ((rb4 (field (bnum A) 16 32) : Nat) : Int) ≠ Adl.adl d; rw [hsum]; simp⟩)]
    rfl
  have hA2 : A = (zh2 I true ++ lowB (rb4 (Adl.adl d).toNat) 4) ++ (pk (fixAll zs) ++ lowB (rb4 (Adl.adl zs).toNat) 4) := by rw [hA, List.append_assoc]
  have hp2 : Octets (zh2 I true ++ lowB (rb4 (Adl.adl d).toNat) 4) := fun v hv => by
    rcases List.mem_append.1 hv with h | h
    · exact zhd_oct I true hI v h
    · exact lowB_oct _ _ v h
  obtain ⟨cf, e1, e2⟩ := zl_rest (z := z) (q := q) hA2 hp2 hz hzl (by omega) (zstep_ok (by omega) hok1 rfl hs2).1
  exact ⟨cf, .more (znow_head z q) (zstep_go (by omega) hok0 rfl hs) (.more (znow_d1 z q _ _) (zstep_go (by omega) hok1 rfl hs2) e1), e2⟩
/-- Another dictionary, or none. -/
theorem zl_other (z q I : Nat) (hI : I < 8) (d e zs : List Int) (hd : d ≠ []) (hzl : zs.length ≤ 1000) (he : e = [] ∨ Adl.adl e ≠ Adl.adl d) : ∃ cf, Ends (znow z q) (zstep (zcode I d zs) e) zc0 5 cf ∧ cf.ic.out = [] := by
  have hlen := zcode_len I d zs hzl
  have hA := zcode_yes I d zs hd
  obtain ⟨A, hAe⟩ : ∃ A, zcode I d zs = A := ⟨_, rfl⟩
  rw [hAe] at hA hlen ⊢
  obtain ⟨hs, hl48, hsum⟩ := zl_dict1 I hI d e zs A hA
  have hok0 := zc0_ok A e
  have hok1 := (zstep_ok (by omega) hok0 rfl hs).1
  have hs2 : zstep0 A e ⟨1, zsz (field (bnum A) 0 16), icA 16 [], false⟩ = .inr (5, ⟨1, zsz (field (bnum A) 0 16), icTo (icA 16 []) (16 + 32), true⟩) := by
    unfold zstep0
    rw [if_neg (by show ¬ (1 : Nat) = 0; omega), if_pos (show (1 : Nat) = 1 from rfl), if_pos (by show 16 + 32 ≤ 8 * A.length; omega), if_pos (by
      rcases he with h | h
      · exact .inl h
      · exact .inr (by show ((rb4 (field (bnum A) 16 32) : Nat) : Int) ≠ Adl.adl e; rw [hsum]; exact fun e => h e.symm))]
    rfl
  exact ⟨_, .more (znow_head z q) (zstep_go (by omega) hok0 rfl hs) (.bad (znow_d1 z q _ _) (zstep_no hs2)), rfl⟩
/-- What is told at the end of such a code. -/
theorem zl_end (I : Nat) (hI : I < 8) (d e zs : List Int) (hz : Octets zs) (hzl : zs.length ≤ 1000) : ∀ s c, ZReach (zcode I d zs) e s c → c.st = 16 → c.out.length ≤ 65536 ∧ Octets c.out := by
  rintro s c ⟨i, t, n, hS, hT⟩ h16
  have hk : ∀ pre : List Int, zcode I d zs = pre ++ (pk (fixAll zs) ++ lowB (rb4 (Adl.adl zs).toNat) 4) → Octets pre → i = 8 * pre.length → c.out.length ≤ 65536 ∧ Octets c.out := by
    intro pre hA hp hi
    subst hi
    obtain ⟨n2, c2, r1, r2, r3, r4⟩ := zl_inf (s := s) (t := t) hA hp hz hzl
    have e1 := hT.det r1 h16 r2
    rw [e1, r3]
    exact ⟨by omega, hz⟩
  obtain ⟨_, _, _, hd⟩ := hS
  by_cases hd0 : d = []
  · subst hd0
    have hA := zcode_no I zs
    have h3 := (zhd_says I hI false).2.2
    rw [← zh2_field I false hI (pk (fixAll zs) ++ lowB (rb4 (Adl.adl zs).toNat) 4), ← hA] at h3
    rcases hd with ⟨_, hi, _⟩ | ⟨h4, _⟩
    · exact hk (zh2 I false) hA (zhd_oct I false hI) hi
    · rw [h3] at h4
      cases h4
  · have hA := zcode_yes I d zs hd0
    have h3 := (zhd_says I hI true).2.2
    rw [← zh2_field I true hI (lowB (rb4 (Adl.adl d).toNat) 4 ++ (pk (fixAll zs) ++ lowB (rb4 (Adl.adl zs).toNat) 4)), ← hA] at h3
    rcases hd with ⟨h4, _⟩ | ⟨_, hi, _⟩
    · rw [h3] at h4
      cases h4
    · refine hk (zh2 I true ++ lowB (rb4 (Adl.adl d).toNat) 4) (by rw [hA, List.append_assoc]) (fun v hv => ?_) ?_
      · rcases List.mem_append.1 hv with h | h
        · exact zhd_oct I true hI v h
        · exact lowB_oct _ _ v h
      · rw [hi, List.length_append, lowB_len]
        rfl
end Go.Proofs.YtbddkkfakkedaaaGreatDoor
