import Derived.Test.YtbddkkfakkedaaaGreatDoorMAS
import Derived.Test.YtbddkkfakkedaaaGreatDoorMBA
import Derived.Test.YtbddkkfakkedaaaGreatDoorMBR
/-
  READING A PACKED ROW OF BITS BACK. No program.
-/
namespace Go.Proofs.YtbddkkfakkedaaaGreatDoor
open Go.RowKit
set_option linter.unusedVariables false

/-- The number of a row of bits, the first the lowest. -/
def bval : List Nat → Nat
  | [] => 0
  | b :: L => b + 2 * bval L
theorem bval_app (L M : List Nat) : bval (L ++ M) = bval L + 2 ^ L.length * bval M := by
  induction L with
  | nil => simp [bval]
  | cons b L ih =>
    rw [List.cons_append, bval, bval, ih, List.length_cons, Nat.pow_succ]
    rw [Nat.mul_add, Nat.add_assoc, ← Nat.mul_assoc, Nat.mul_comm 2 (2 ^ L.length)]
theorem bval_lt {L : List Nat} (h : Bin L) : bval L < 2 ^ L.length := by
  induction L with
  | nil => simp [bval]
  | cons b L ih =>
    have h1 := h b (List.mem_cons_self ..)
    have h2 := ih (fun x hx => h x (List.mem_cons_of_mem _ hx))
    rw [bval, List.length_cons, Nat.pow_succ]
    omega
theorem bval_bitsOf (v n : Nat) : bval (bitsOf v n) = v % 2 ^ n := by
  induction n with
  | zero => simp [bitsOf_zero, bval, Nat.mod_one]
  | succ n ih =>
    rw [bitsOf_succ, bval_app, ih, bitsOf_len, Nat.mod_pow_succ]
    simp [bval]
theorem bnum_set {xs : List Int} (k : Nat) (x d : Nat) (hk : k < xs.length) (hx : xs.getD k 0 = (x : Int)) : bnum (xs.set k (xs.getD k 0 + (d : Int))) = bnum xs + 256 ^ k * d := by
  induction xs generalizing k with
  | nil => simp at hk
  | cons y ys ih =>
    cases k with
    | zero =>
      have e : y = (x : Int) := by simpa using hx
      subst e
      show bnum (((x : Int) + (d : Int)) :: ys) = _
      rw [bnum, bnum]
      rw [show ((x : Int) + (d : Int)).toNat = x + d by omega, show ((x : Int)).toNat = x by omega]
      omega
    | succ k =>
      have hx' : ys.getD k 0 = (x : Int) := by simpa using hx
      have hk' : k < ys.length := by simpa using hk
      have h := ih k hk' hx'
      have e : (y :: ys).getD (k + 1) 0 = ys.getD k 0 := by simp
      rw [e, List.set_cons_succ, bnum, bnum, h, Nat.pow_succ, Nat.mul_add]
      rw [← Nat.mul_assoc, Nat.mul_comm 256 (256 ^ k)]
      omega
theorem p256 (k : Nat) : 256 ^ k = 2 ^ (8 * k) := by rw [Nat.pow_mul]
theorem bnum_pk (L : List Nat) (hL : Bin L) : bnum (pk L) = bval L := by
  induction L using snoc_ind with
  | h0 => rw [pk_nil]; rfl
  | h1 L b ih =>
    have hb : b ≤ 1 := hL b (by simp)
    have hL' := hL.left
    rw [pk_snoc, bval_app]
    have hv : bval [b] = b := by simp [bval]
    rw [hv]
    unfold pkOne
    have hlen := pk_len L
    by_cases h8 : L.length % 8 = 0
    · rw [if_pos h8, bnum_append, ih hL', p256, hlen, show 8 * ((L.length + 7) / 8) = L.length by omega]
      have : bnum [(b : Int)] = b := by
        rw [bnum, bnum]
        omega
      rw [this]
    · rw [if_neg h8]
      obtain ⟨x, hx, _⟩ := pk_top L hL' h8
      rw [bnum_set (L.length / 8) x (b * 2 ^ (L.length % 8)) (by omega) hx, ih hL', p256]
      have e : 2 ^ (8 * (L.length / 8)) * (b * 2 ^ (L.length % 8)) = 2 ^ L.length * b := by
        rw [Nat.mul_comm b, ← Nat.mul_assoc, ← Nat.pow_add, show 8 * (L.length / 8) + L.length % 8 = L.length by omega]
      rw [e]
/-- The bits from the end of L on. -/
theorem field_pk (L M : List Nat) (hL : Bin L) (hM : Bin M) (n : Nat) : field (bnum (pk (L ++ M))) L.length n = bval M % 2 ^ n := by
  unfold field
  rw [bnum_pk _ (hL.app hM), bval_app, Nat.add_mul_div_left _ _ (Nat.two_pow_pos _), Nat.div_eq_of_lt (bval_lt hL), Nat.zero_add]
theorem pk_room (L : List Nat) : L.length ≤ 8 * (pk L).length := by rw [pk_len]; omega
/-- A symbol's code is read back, whatever follows. -/
theorem nx3_code {ls : List Int} (hok : okC ls = true) (hss : SS ls 15 ≤ 32768) {S : Nat} (hc : Coded ls S) {b n : Nat} (hn : ln ls S ≤ n) (hn2 : n ≤ 64) (hb : b % 2 ^ ln ls S = cb ls S) : nx3 ls b n = (1, S, ln ls S) := by
  have hcov : cov ls S (tr (b % 2 ^ n) 15) := by
    refine (cov_iff hc hss _).1 ?_
    rw [mod_mod _ _ _ hn]
    exact hb
  rw [nx3_some hok hn2 hcov, if_pos hn]
theorem nx3_at {ls : List Int} (hok : okC ls = true) (hss : SS ls 15 ≤ 32768) {S : Nat} (hc : Coded ls S) (L R : List Nat) (hL : Bin L) (hR : Bin R) {zs : List Int} {i : Nat} (hz : zs = pk (L ++ (bitsOf (cb ls S) (ln ls S) ++ R))) (hi : i = L.length) :
    nx3 ls (field (bnum zs) i (Nat.min (8 * zs.length - i) 15)) (Nat.min (8 * zs.length - i) 15) = (1, S, ln ls S) := by
  subst hi
  subst hz
  have hB : Bin (bitsOf (cb ls S) (ln ls S) ++ R) := (bitsOf_bin _ _).app hR
  have h15 := hc.most
  have hr := pk_room (L ++ (bitsOf (cb ls S) (ln ls S) ++ R))
  simp only [List.length_append, bitsOf_len] at hr
  have hmin : ln ls S ≤ Nat.min (8 * (pk (L ++ (bitsOf (cb ls S) (ln ls S) ++ R))).length - L.length) 15 := by
    show _ ≤ min _ _
    omega
  have hmin2 : Nat.min (8 * (pk (L ++ (bitsOf (cb ls S) (ln ls S) ++ R))).length - L.length) 15 ≤ 15 := Nat.min_le_right _ _
  generalize Nat.min (8 * (pk (L ++ (bitsOf (cb ls S) (ln ls S) ++ R))).length - L.length) 15 = n at *
  refine nx3_code hok hss hc hmin (by omega) ?_
  rw [field_pk L _ hL hB, mod_mod _ _ _ hmin, bval_app, bval_bitsOf, bitsOf_len, Nat.add_mul_mod_self_left, Nat.mod_mod, Nat.mod_eq_of_lt (cb_lt ls S)]
end Go.Proofs.YtbddkkfakkedaaaGreatDoor
/-
  WHAT AN INFLATER DOES WITH A FIXED BLOCK OF ONE LITERAL AND COPIES. No program.
-/
namespace Go.Proofs.YtbddkkfakkedaaaGreatDoor
open Go.RowKit
set_option linter.unusedVariables false

def litU (s : Nat) (c : IC) (K S l : Nat) : IC ⊕ (Int × IC) :=
  if K = 1 then
    if S < 256 then
      if 100000 < c.out.length + 1 then .inr (6, { c with lc := { c.lc with i := c.lc.i + l } }) else .inl (tellC s { c with lc := { c.lc with i := c.lc.i + l } } [(S : Int)])
    else if S = 256 then .inl { c with st := 8, lc := { c.lc with i := c.lc.i + l } }
    else if 285 < S then .inr (3, { c with lc := { c.lc with i := c.lc.i + l } })
    else .inl { c with st := 13, base := (lenR S).1, extra := (lenR S).2, lc := { c.lc with i := c.lc.i + l } }
  else if K = 2 then .inr (2, c) else .inr (3, c)
theorem istep_lit {s : Nat} {zs : List Int} {c : IC} (h : c.st = 12) {K S l : Nat} (hx : nx3 c.ul (field (bnum zs) c.lc.i (Nat.min (8 * zs.length - c.lc.i) 15)) (Nat.min (8 * zs.length - c.lc.i) 15) = (K, S, l)) : istep0 s zs c = litU s c K S l := by
  have e : istep0 s zs c = literalS s zs c := by simp [istep0, h]
  rw [e]
  have e2 : literalS s zs c = litU s c (nx3 c.ul (field (bnum zs) c.lc.i (Nat.min (8 * zs.length - c.lc.i) 15)) (Nat.min (8 * zs.length - c.lc.i) 15)).1 (nx3 c.ul (field (bnum zs) c.lc.i (Nat.min (8 * zs.length - c.lc.i) 15)) (Nat.min (8 * zs.length - c.lc.i) 15)).2.1 (nx3 c.ul (field (bnum zs) c.lc.i (Nat.min (8 * zs.length - c.lc.i) 15)) (Nat.min (8 * zs.length - c.lc.i) 15)).2.2 := rfl
  rw [e2, hx]
def disU (c : IC) (K S l : Nat) : IC ⊕ (Int × IC) :=
  if K = 1 then
    if 29 < S then .inr (3, { c with lc := { c.lc with i := c.lc.i + l } })
    else .inl { c with st := 15, base := (distR S).1, extra := (distR S).2, lc := { c.lc with i := c.lc.i + l } }
  else if K = 2 then .inr (2, c) else .inr (3, c)
theorem istep_dis {s : Nat} {zs : List Int} {c : IC} (h : c.st = 14) {K S l : Nat} (hx : nx3 c.ud (field (bnum zs) c.lc.i (Nat.min (8 * zs.length - c.lc.i) 15)) (Nat.min (8 * zs.length - c.lc.i) 15) = (K, S, l)) : istep0 s zs c = disU c K S l := by
  have e : istep0 s zs c = distanceS zs c := by simp [istep0, h]
  rw [e]
  have e2 : distanceS zs c = disU c (nx3 c.ud (field (bnum zs) c.lc.i (Nat.min (8 * zs.length - c.lc.i) 15)) (Nat.min (8 * zs.length - c.lc.i) 15)).1 (nx3 c.ud (field (bnum zs) c.lc.i (Nat.min (8 * zs.length - c.lc.i) 15)) (Nat.min (8 * zs.length - c.lc.i) 15)).2.1 (nx3 c.ud (field (bnum zs) c.lc.i (Nat.min (8 * zs.length - c.lc.i) 15)) (Nat.min (8 * zs.length - c.lc.i) 15)).2.2 := rfl
  rw [e2, hx]
theorem field_nil (N i : Nat) : field N i 0 = 0 := by unfold field; rw [Nat.pow_zero, Nat.mod_one]
theorem bin_five : Bin [0, 0, 0, 0, 0] := fun b hb => by simp at hb; omega
theorem F288_ss : SS F288 15 ≤ 32768 := by decide +kernel
theorem F32_ss : SS F32 15 ≤ 32768 := by decide +kernel
theorem F32_okL : okC F32 = true := by decide +kernel
theorem coded_7 : Coded F288 7 := ⟨by decide +kernel, by decide +kernel, by decide +kernel, by decide +kernel⟩
theorem coded_285 : Coded F288 285 := ⟨by decide +kernel, by decide +kernel, by decide +kernel, by decide +kernel⟩
theorem coded_256 : Coded F288 256 := ⟨by decide +kernel, by decide +kernel, by decide +kernel, by decide +kernel⟩
theorem coded_0 : Coded F32 0 := ⟨by decide +kernel, by decide +kernel, by decide +kernel, by decide +kernel⟩
theorem ln_7 : ln F288 7 = 8 := by decide +kernel
theorem ln_285 : ln F288 285 = 8 := by decide +kernel
theorem ln_256 : ln F288 256 = 7 := by decide +kernel
theorem ln_0 : ln F32 0 = 5 := by decide +kernel
theorem cb_0 : bitsOf (cb F32 0) (ln F32 0) = [0, 0, 0, 0, 0] := by decide +kernel
theorem cbits_cb {S : Nat} (h : Coded F288 S) : cbits S = bitsOf (cb F288 S) (ln F288 S) := by
  unfold cbits
  rw [code_cb (by have := h.pos; omega)]
theorem cbits_bin (S : Nat) : Bin (cbits S) := bitsOf_bin _ _
/-- One copy, as bits. -/
def lgP : List Nat := cbits 285 ++ [0, 0, 0, 0, 0]
def lgC : Nat → List Nat
  | 0 => []
  | m + 1 => lgC m ++ lgP
def lgH : List Nat := [1, 1, 0] ++ cbits 7
def lgW (n : Nat) : List Nat := lgH ++ lgC n ++ cbits 256
theorem lgP_bin : Bin lgP := (cbits_bin _).app (fun b hb => by simp at hb; omega)
theorem lgC_bin (n : Nat) : Bin (lgC n) := by
  induction n with
  | zero => exact fun b hb => by cases hb
  | succ n ih => exact ih.app lgP_bin
theorem lgH_bin : Bin lgH := by
  refine Bin.app (fun b hb => ?_) (cbits_bin _)
  simp at hb
  omega
theorem lgP_len : lgP.length = 13 := by unfold lgP; rw [List.length_append, cbits_cb coded_285, bitsOf_len, ln_285]; rfl
theorem lgC_len (n : Nat) : (lgC n).length = 13 * n := by
  induction n with
  | zero => rfl
  | succ n ih => rw [lgC, List.length_append, ih, lgP_len]; omega
theorem lgH_len : lgH.length = 11 := by unfold lgH; rw [List.length_append, cbits_cb coded_7, bitsOf_len, ln_7]; rfl
theorem lgW_len (n : Nat) : (lgW n).length = 18 + 13 * n := by
  unfold lgW
  rw [List.length_append, List.length_append, lgH_len, lgC_len, cbits_cb coded_256, bitsOf_len, ln_256]
  omega
theorem lgW_bin (n : Nat) : Bin (lgW n) := (lgH_bin.app (lgC_bin n)).app (cbits_bin _)
theorem lgC_add (a b : Nat) : lgC (a + b) = lgC a ++ lgC b := by
  induction b with
  | zero => simp [lgC]
  | succ b ih => rw [← Nat.add_assoc, lgC, lgC, ih, List.append_assoc]
theorem lgC_one : lgC 1 = lgP := by simp [lgC]
theorem lgW_cut (n m : Nat) (h : m < n) : lgW n = (lgH ++ lgC m) ++ (bitsOf (cb F288 285) (ln F288 285) ++ ([0, 0, 0, 0, 0] ++ lgC (n - m - 1) ++ cbits 256)) := by
  unfold lgW
  have e : lgC n = lgC m ++ (lgP ++ lgC (n - m - 1)) := by
    rw [← lgC_one, ← lgC_add, ← lgC_add]
    congr 1
    omega
  rw [e, lgP, cbits_cb coded_285]
  simp only [List.append_assoc]
theorem lgW_cut2 (n m : Nat) (h : m < n) : lgW n = ((lgH ++ lgC m) ++ cbits 285) ++ (bitsOf (cb F32 0) (ln F32 0) ++ (lgC (n - m - 1) ++ cbits 256)) := by
  rw [lgW_cut n m h, cb_0, cbits_cb coded_285]
  simp only [List.append_assoc]
theorem lgW_cut0 (n : Nat) : lgW n = [1, 1, 0] ++ (bitsOf (cb F288 7) (ln F288 7) ++ (lgC n ++ cbits 256)) := by
  unfold lgW lgH
  rw [cbits_cb coded_7]
  simp only [List.append_assoc]
theorem lgW_cute (n : Nat) : lgW n = (lgH ++ lgC n) ++ (bitsOf (cb F288 256) (ln F288 256) ++ []) := by
  unfold lgW
  rw [cbits_cb coded_256, List.append_nil]
theorem copy7 (i : Nat) : copyN [7] 1 i = List.replicate (i + 1) 7 := by
  induction i with
  | zero => rfl
  | succ i ih =>
    rw [copyN, ih, List.length_replicate]
    rw [List.replicate_succ' (n := i + 1)]
    congr 2
    rw [List.getD_eq_getElem?_getD, List.getElem?_replicate, if_pos (by omega)]
    rfl
theorem data7 (i : Nat) : dataN [7] 1 i = List.replicate i 7 := by
  unfold dataN
  rw [copy7]
  simp
theorem last7 (i : Nat) : lastN 1 (List.replicate (i + 1) (7 : Int)) = [7] := by
  unfold lastN
  rw [List.length_replicate, List.drop_replicate]
  rw [show i + 1 - (i + 1 - 1) = 1 by omega]
  rfl
/-- Where the inflater stands behind m copies. -/
structure LgAt (m : Nat) (c : IC) : Prop where
  st : c.st = 12
  i : c.lc.i = (lgH ++ lgC m).length
  ul : c.ul = F288
  ud : c.ud = F32
  last : c.last = true
  out : c.out = List.replicate (1 + 258 * m) 7
  t : c.t = [7]
/-- How it ends. -/
def LgEnd (n : Nat) (k : Int) (cf : IC) : Prop :=
  (100000 < 1 + 258 * n → k = 6 ∧ cf.out.length = 99847) ∧ (1 + 258 * n ≤ 100000 → k = 1 ∧ cf.out = List.replicate (1 + 258 * n) 7 ∧ cf.lc.i = (lgW n).length)
set_option maxRecDepth 100000 in
theorem lg_end (n : Nat) (c : IC) (h : LgAt n c) (hn : 1 + 258 * n ≤ 100000) : ∃ k cf, IEnds 1 (pk (lgW n)) c k cf ∧ LgEnd n k cf := by
  have hx := nx3_at F288_ok F288_ss coded_256 (lgH ++ lgC n) [] (lgH_bin.app (lgC_bin n)) (fun b hb => by cases hb) (zs := pk (lgW n)) (i := c.lc.i) (by rw [lgW_cute]) h.i
  rw [← h.ul] at hx
  have s1 := istep_lit (s := 1) h.st hx
  unfold litU at s1
  rw [if_pos rfl, if_neg (by decide), if_pos rfl] at s1
  have s2 : istep0 1 (pk (lgW n)) { c with st := 8, lc := { c.lc with i := c.lc.i + ln c.ul 256 } } = .inl { c with st := 16, lc := { c.lc with i := c.lc.i + ln c.ul 256 } } := by
    have e : istep0 1 (pk (lgW n)) { c with st := 8, lc := { c.lc with i := c.lc.i + ln c.ul 256 } } = blockEndS { c with st := 8, lc := { c.lc with i := c.lc.i + ln c.ul 256 } } := by simp [istep0]
    rw [e]
    unfold blockEndS
    rw [if_pos h.last]
  refine ⟨1, { c with st := 16, lc := { c.lc with i := c.lc.i + ln c.ul 256 } }, .more (by rw [h.st]; decide) s1 (.more (show (8 : Nat) ≤ 15 by decide) s2 (.fin (show ¬ (16 : Nat) ≤ 15 by decide))), fun h => by omega, fun _ => ⟨rfl, h.out, ?_⟩⟩
  show c.lc.i + ln c.ul 256 = _
  rw [h.ul, ln_256, h.i, lgW_len, List.length_append, lgH_len, lgC_len]
  omega
set_option maxRecDepth 100000 in
theorem lg_round (n m : Nat) (hm : m < n) (c : IC) (h : LgAt m c) (ho : 1 + 258 * m ≤ 100000) : (100000 < 1 + 258 * (m + 1) → ∃ cf, IEnds 1 (pk (lgW n)) c 6 cf ∧ cf.out = c.out) ∧ (1 + 258 * (m + 1) ≤ 100000 → ∃ c', LgAt (m + 1) c' ∧ ∀ k cf, IEnds 1 (pk (lgW n)) c' k cf → IEnds 1 (pk (lgW n)) c k cf) := by
  have hroom := pk_room (lgW n)
  rw [lgW_len] at hroom
  have hx := nx3_at F288_ok F288_ss coded_285 (lgH ++ lgC m) ([0, 0, 0, 0, 0] ++ lgC (n - m - 1) ++ cbits 256) (lgH_bin.app (lgC_bin m)) ((bin_five.app (lgC_bin _)).app (cbits_bin _)) (zs := pk (lgW n)) (i := c.lc.i) (by rw [lgW_cut n m hm]) h.i
  rw [← h.ul] at hx
  have s1 := istep_lit (s := 1) h.st hx
  unfold litU at s1
  rw [if_pos rfl, if_neg (by decide), if_neg (by decide), if_neg (by decide), show lenR 285 = (258, 0) from rfl, show ln c.ul 285 = 8 by rw [h.ul, ln_285]] at s1
  dsimp only at s1
  have hi : c.lc.i = 11 + 13 * m := by rw [h.i, List.length_append, lgH_len, lgC_len]
  generalize hc1 : ({ c with st := 13, base := 258, extra := 0, lc := { c.lc with i := c.lc.i + 8 } } : IC) = c1 at s1
  have s2 : istep0 1 (pk (lgW n)) c1 = .inl { c1 with st := 14, len := 258 } := by
    have e : istep0 1 (pk (lgW n)) c1 = copyLengthS (pk (lgW n)) c1 := by rw [← hc1]; simp [istep0]
    rw [e, ← hc1]
    unfold copyLengthS
    dsimp only
    rw [if_pos (by omega), field_nil]
  generalize hc2 : ({ c1 with st := 14, len := 258 } : IC) = c2 at s2
  have e2i : c2.lc.i = ((lgH ++ lgC m) ++ cbits 285).length := by
    rw [← hc2, ← hc1, List.length_append, cbits_cb coded_285, bitsOf_len, ln_285]
    show c.lc.i + 8 = _
    rw [h.i]
  have e2u : c2.ud = F32 := by rw [← hc2, ← hc1]; exact h.ud
  have e2s : c2.st = 14 := by rw [← hc2]
  have hy := nx3_at F32_okL F32_ss coded_0 ((lgH ++ lgC m) ++ cbits 285) (lgC (n - m - 1) ++ cbits 256) ((lgH_bin.app (lgC_bin m)).app (cbits_bin _)) ((lgC_bin _).app (cbits_bin _)) (zs := pk (lgW n)) (i := c2.lc.i) (by rw [lgW_cut2 n m hm]) e2i
  rw [← e2u] at hy
  have s3 := istep_dis (s := 1) e2s hy
  unfold disU at s3
  rw [if_pos rfl, if_neg (by decide), show distR 0 = (1, 0) from rfl, show ln c2.ud 0 = 5 by rw [e2u, ln_0]] at s3
  dsimp only at s3
  generalize hc3 : ({ c2 with st := 15, base := 1, extra := 0, lc := { c2.lc with i := c2.lc.i + 5 } } : IC) = c3 at s3
  have s4 : istep0 1 (pk (lgW n)) c3 = if 100000 < c.out.length + 258 then .inr (6, c3) else .inl { copyC 1 c3 1 with st := 12 } := by
    have e : istep0 1 (pk (lgW n)) c3 = copyDistanceS 1 (pk (lgW n)) c3 := by rw [← hc3]; simp [istep0]
    rw [e, ← hc3, ← hc2, ← hc1]
    unfold copyDistanceS
    dsimp only
    rw [if_pos (by omega), field_nil, if_neg (by rw [h.t]; decide)]
  have ho3 : c3.out = c.out := by rw [← hc3, ← hc2, ← hc1]
  have hol : c.out.length = 1 + 258 * m := by rw [h.out, List.length_replicate]
  have st1 : c1.st ≤ 15 := by rw [← hc1]; show (13 : Nat) ≤ 15; decide
  have st2 : c2.st ≤ 15 := by rw [← hc2]; show (14 : Nat) ≤ 15; decide
  have st3 : c3.st ≤ 15 := by rw [← hc3]; show (15 : Nat) ≤ 15; decide
  have st0 : c.st ≤ 15 := by rw [h.st]; decide
  refine ⟨fun hg => ?_, fun hg => ?_⟩
  · have hgt : 100000 < c.out.length + 258 := by omega
    rw [if_pos hgt] at s4
    exact ⟨c3, .more st0 s1 (.more st1 s2 (.more st2 s3 (.bad st3 s4))), ho3⟩
  · have hgt : ¬ 100000 < c.out.length + 258 := by omega
    rw [if_neg hgt] at s4
    refine ⟨_, ?_, fun k cf hE => .more st0 s1 (.more st1 s2 (.more st2 s3 (.more st3 s4 hE)))⟩
    have ht : c3.t = [7] := by rw [← hc3, ← hc2, ← hc1]; exact h.t
    have hl : c3.len = 258 := by rw [← hc3, ← hc2]
    refine ⟨rfl, ?_, ?_, ?_, ?_, ?_, ?_⟩
    · show c3.lc.i = _
      rw [← hc3, ← hc2, ← hc1]
      show c.lc.i + 8 + 5 = _
      rw [List.length_append, lgH_len, lgC_len]
      omega
    · show c3.ul = _
      rw [← hc3, ← hc2, ← hc1]; exact h.ul
    · show c3.ud = _
      rw [← hc3, ← hc2, ← hc1]; exact h.ud
    · show c3.last = _
      rw [← hc3, ← hc2, ← hc1]; exact h.last
    · show c3.out ++ dataN c3.t 1 c3.len = _
      rw [ho3, ht, hl, data7, h.out, List.replicate_append_replicate]
      congr 1
    · show lastN 1 (copyN c3.t 1 c3.len) = _
      rw [ht, hl, copy7, last7]
set_option maxRecDepth 100000 in
theorem lg_from (n : Nat) : ∀ j m c, m + j = n → 1 + 258 * m ≤ 100000 → LgAt m c → ∃ k cf, IEnds 1 (pk (lgW n)) c k cf ∧ LgEnd n k cf := by
  intro j
  induction j with
  | zero =>
    intro m c hj ho h
    have e : m = n := by omega
    subst e
    exact lg_end m c h ho
  | succ j ih =>
    intro m c hj ho h
    obtain ⟨r1, r2⟩ := lg_round n m (by omega) c h ho
    by_cases hg : 1 + 258 * (m + 1) ≤ 100000
    · obtain ⟨c', h', hE⟩ := r2 hg
      obtain ⟨k, cf, e1, e2⟩ := ih (m + 1) c' (by omega) hg h'
      exact ⟨k, cf, hE k cf e1, e2⟩
    · obtain ⟨cf, e1, e2⟩ := r1 (by omega)
      refine ⟨6, cf, e1, fun _ => ⟨rfl, ?_⟩, fun h => by omega⟩
      rw [e2, h.out, List.length_replicate]
      omega
theorem lg_all (n : Nat) : ∃ k cf, IEnds 1 (pk (lgW n)) (ic0 []) k cf ∧ LgEnd n k cf := by
  have hroom := pk_room (lgW n)
  rw [lgW_len] at hroom
  have hf : field (bnum (pk (lgW n))) 0 3 = 3 := by
    have h := field_pk [] (lgW n) (fun b hb => by cases hb) (lgW_bin n) 3
    rw [List.nil_append, List.length_nil] at h
    rw [h, lgW_cut0, bval_app]
    show (3 + 2 ^ 3 * _) % 2 ^ 3 = 3
    rw [Nat.add_mul_mod_self_left]
  have s1 : istep0 1 (pk (lgW n)) (ic0 []) = .inl { ic0 [] with st := 11, last := true, lc := { lc0 0 with i := 3 } } := by
    have e : istep0 1 (pk (lgW n)) (ic0 []) = blockHeadS (pk (lgW n)) (ic0 []) := by simp [istep0, ic0]
    rw [e]
    unfold blockHeadS
    have hi0 : (ic0 []).lc.i = 0 := rfl
    rw [hi0, hf, if_pos (by omega), if_neg (by decide), if_pos (by decide)]
    rfl
  have s2 : istep0 1 (pk (lgW n)) { ic0 [] with st := 11, last := true, lc := { lc0 0 with i := 3 } } = .inl { ic0 [] with st := 12, last := true, lc := { lc0 0 with i := 3 }, fx := true, ul := F288, ud := F32 } := by
    have e : istep0 1 (pk (lgW n)) { ic0 [] with st := 11, last := true, lc := { lc0 0 with i := 3 } } = fixedCodesS { ic0 [] with st := 11, last := true, lc := { lc0 0 with i := 3 } } := by simp [istep0]
    rw [e]
    rfl
  generalize hc2 : ({ ic0 [] with st := 12, last := true, lc := { lc0 0 with i := 3 }, fx := true, ul := F288, ud := F32 } : IC) = c2 at s2
  have e2u : c2.ul = F288 := by rw [← hc2]
  have e2i : c2.lc.i = ([1, 1, 0] : List Nat).length := by rw [← hc2]; rfl
  have hx := nx3_at F288_ok F288_ss coded_7 [1, 1, 0] (lgC n ++ cbits 256) (fun b hb => by simp at hb; omega) ((lgC_bin n).app (cbits_bin _)) (zs := pk (lgW n)) (i := c2.lc.i) (by rw [lgW_cut0]) e2i
  rw [← e2u] at hx
  have s3 := istep_lit (s := 1) (c := c2) (by rw [← hc2]) hx
  unfold litU at s3
  rw [if_pos rfl, if_pos (by decide), if_neg (by rw [← hc2]; show ¬ 100000 < 0 + 1; decide), show ln c2.ul 7 = 8 by rw [e2u, ln_7]] at s3
  obtain ⟨k, cf, hE, hL⟩ := lg_from n n 0 (tellC 1 { c2 with lc := { c2.lc with i := c2.lc.i + 8 } } [((7 : Nat) : Int)]) (by omega) (by decide) ⟨by rw [← hc2]; rfl, by rw [List.length_append, lgH_len, lgC_len, ← hc2]; rfl, by rw [← hc2]; rfl, by rw [← hc2]; rfl, by rw [← hc2]; rfl, by rw [← hc2]; rfl, by rw [← hc2]; rfl⟩
  exact ⟨k, cf, .more (by decide) s1 (.more (by decide) s2 (.more (by rw [← hc2]; show (12 : Nat) ≤ 15; decide) s3 hE)), hL⟩
end Go.Proofs.YtbddkkfakkedaaaGreatDoor
