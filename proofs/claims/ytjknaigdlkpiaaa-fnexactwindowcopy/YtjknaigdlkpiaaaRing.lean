/-
  A RING: what lies in it and what it tells. No program.
-/
import Derived.Laws.CopyOwn
namespace Go.Proofs.Ytjknaigdlkpiaaa

/-- The last n. -/
def lastN (n : Nat) (zs : List Int) : List Int := zs.drop (zs.length - n)
theorem lastN_len (n : Nat) (zs : List Int) : (lastN n zs).length = min zs.length n := by simp [lastN]; omega
theorem lastN_all {n : Nat} {zs : List Int} (h : zs.length ≤ n) : lastN n zs = zs := by simp [lastN, Nat.sub_eq_zero_of_le h]
theorem getD_drop (zs : List Int) (k i : Nat) : (zs.drop k).getD i 0 = zs.getD (k + i) 0 := by simp [List.getD]
theorem lastN_getD (n : Nat) (zs : List Int) (i : Nat) : (lastN n zs).getD i 0 = zs.getD (zs.length - n + i) 0 := getD_drop _ _ _
theorem getD_app (a b : List Int) (i : Nat) : (a ++ b).getD i 0 = if i < a.length then a.getD i 0 else b.getD (i - a.length) 0 := by
  split
  · rename_i h; simp [List.getD, List.getElem?_append_left h]
  · rename_i h; simp [List.getD, List.getElem?_append_right (Nat.le_of_not_lt h)]
theorem ext_getD {a b : List Int} (hl : a.length = b.length) (h : ∀ i, i < a.length → a.getD i 0 = b.getD i 0) : a = b := by
  apply List.ext_getElem hl
  intro j h1 h2
  have := h j h1
  simpa [List.getD, h1, h2] using this
theorem lastN_lastN (n : Nat) (a b : List Int) : lastN n (lastN n a ++ b) = lastN n (a ++ b) := by
  refine ext_getD (by simp [lastN_len]; omega) ?_
  intro i hi
  simp only [lastN_len, List.length_append] at hi
  rw [lastN_getD, lastN_getD, getD_app, getD_app, lastN_getD]
  simp only [lastN_len, List.length_append]
  split <;> split <;> first | omega | (congr 1; omega)

/-- Round the ring's end. -/
def wr (s x : Nat) : Nat := if x < s then x else x - s
theorem wr_mod {s x : Nat} (h : x < 2 * s) : x % s = wr s x := by
  unfold wr
  split
  · exact Nat.mod_eq_of_lt (by assumption)
  · rw [Nat.mod_eq_sub_mod (by omega), Nat.mod_eq_of_lt (by omega)]

structure RingIs (rs : List Int) (s p c : Nat) (t : List Int) : Prop where
  pos : 0 < s
  room : s ≤ rs.length
  place : p < s
  len : t.length = c
  most : c ≤ s
  young : c < s → p = c
  at_ : ∀ i, i < c → t.getD i 0 = rs.getD (wr s (p + s - c + i)) 0

theorem RingIs.new (rs : List Int) (s : Nat) (h0 : 0 < s) (h : s ≤ rs.length) : RingIs rs s 0 0 [] :=
  ⟨h0, h, h0, rfl, Nat.zero_le _, fun _ => rfl, fun i hi => absurd hi (by omega)⟩

theorem RingIs.put {rs rs' : List Int} {s p c : Nat} {t d : List Int} (h : RingIs rs s p c t) (hm : d.length ≤ s) (hl : s ≤ rs'.length)
    (hr : ∀ j, j < s → rs'.getD j 0 = if wr s (j + s - p) < d.length then d.getD (wr s (j + s - p)) 0 else rs.getD j 0) :
    RingIs rs' s (wr s (p + d.length)) (min (c + d.length) s) (lastN s (t ++ d)) := by
  obtain ⟨h1, h2, h3, h4, h5, h6, h7⟩ := h
  refine ⟨h1, hl, ?_, ?_, by omega, ?_, ?_⟩
  · unfold wr; split <;> omega
  · rw [lastN_len, List.length_append, h4]
  · intro hc
    have := h6 (by omega)
    unfold wr; split <;> omega
  · intro i hi
    rw [lastN_getD, getD_app, List.length_append, h4]
    have hj : wr s (wr s (p + d.length) + s - min (c + d.length) s + i) < s := by
      unfold wr; repeat' split
      all_goals omega
    rw [hr _ hj]
    have hx : wr s (wr s (wr s (p + d.length) + s - min (c + d.length) s + i) + s - p) = if c + d.length - s + i < c then (c + d.length - s + i) + s - c else c + d.length - s + i - c := by
      by_cases hcs : c < s
      · have := h6 hcs
        unfold wr; repeat' split
        all_goals omega
      · unfold wr; repeat' split
        all_goals omega
    rw [hx]
    by_cases hk : c + d.length - s + i < c
    · rw [if_pos hk, if_pos hk, if_neg (by omega), h7 _ hk]
      congr 1
      by_cases hcs : c < s
      · have := h6 hcs
        unfold wr; repeat' split
        all_goals omega
      · unfold wr; repeat' split
        all_goals omega
    · rw [if_neg hk, if_neg hk, if_pos (by omega)]

theorem RingIs.one {rs : List Int} {s p c : Nat} {t : List Int} (h : RingIs rs s p c t) (x : Int) : RingIs (rs.set p x) s (wr s (p + 1)) (min (c + 1) s) (lastN s (t ++ [x])) := by
  have h3 := h.place
  have h2 := h.room
  refine h.put (d := [x]) (by have := h.pos; simp; omega) (by simpa using h2) ?_
  intro j hj
  by_cases e : j = p
  · subst e
    have : wr s (j + s - j) = 0 := by unfold wr; split <;> omega
    rw [this]
    have : j < rs.length := by omega
    simp [List.getD, this]
  · have : ¬ wr s (j + s - p) < 1 := by unfold wr; split <;> omega
    have e' : ¬ p = j := fun h => e h.symm
    simp [List.getD, this, e']

/-- The byte dist places before the end. -/
theorem RingIs.back {rs : List Int} {s p c : Nat} {t : List Int} (h : RingIs rs s p c t) {dist : Nat} (h0 : 1 ≤ dist) (h1 : dist ≤ c) : rs.getD (wr s (p + s - dist)) 0 = t.getD (c - dist) 0 := by
  have := h.most
  rw [h.at_ _ (by omega)]
  congr 2
  omega

theorem RingIs.tell_young {rs : List Int} {s p c : Nat} {t : List Int} (h : RingIs rs s p c t) (hc : c < s) : rs.take p = t := by
  obtain ⟨h1, h2, h3, h4, h5, h6, h7⟩ := h
  have hp := h6 hc
  subst hp
  refine ext_getD (by simp; omega) ?_
  intro i hi
  simp at hi
  rw [h7 i (by omega)]
  have : wr s (p + s - p + i) = i := by unfold wr; split <;> omega
  rw [this]
  simp [List.getD, (by omega : i < p)]
theorem RingIs.tell_full {rs : List Int} {s p c : Nat} {t : List Int} (h : RingIs rs s p c t) (hc : ¬ c < s) : (rs.drop p).take (s - p) ++ rs.take p = t := by
  obtain ⟨h1, h2, h3, h4, h5, h6, h7⟩ := h
  refine ext_getD (by simp; omega) ?_
  intro i hi
  simp at hi
  rw [h7 i (by omega), getD_app]
  simp only [List.length_take, List.length_drop]
  split
  · rw [show wr s (p + s - c + i) = p + i by unfold wr; split <;> omega]
    simp [List.getD, (by omega : i < s - p)]
  · rw [show wr s (p + s - c + i) = i - (s - p) by unfold wr; split <;> omega, show min (s - p) (rs.length - p) = s - p by omega]
    simp [List.getD, (by omega : i - (s - p) < p)]

theorem splice_getD (L : List Int) (o : Nat) (cs : List Int) (h : o + cs.length ≤ L.length) (j : Nat) : (splice L o cs).getD j 0 = if o ≤ j ∧ j < o + cs.length then cs.getD (j - o) 0 else L.getD j 0 := by
  unfold splice
  rw [getD_app, getD_app]
  simp only [List.length_take]
  by_cases h1 : j < o
  · rw [if_pos (by omega), if_neg (by omega)]
    simp [List.getD, h1]
  · rw [if_neg (by omega)]
    by_cases h2 : j < o + cs.length
    · rw [if_pos (by omega), if_pos ⟨by omega, h2⟩]
      congr 1; omega
    · rw [if_neg (by omega), if_neg (by omega), getD_drop]
      congr 1; omega

/-- Two copies: up to the ring's end, and from its head on. -/
theorem RingIs.copies {rs : List Int} {s p c : Nat} {t d : List Int} (h : RingIs rs s p c t) (hm : d.length ≤ s) :
    RingIs (splice (splice rs p (d.take (s - p))) 0 (d.drop (s - p))) s (wr s (p + d.length)) (min (c + d.length) s) (lastN s (t ++ d)) := by
  have h2 := h.room
  have h3 := h.place
  have l1 : p + (d.take (s - p)).length ≤ rs.length := by simp; omega
  have e1 := length_splice rs p (d.take (s - p)) l1
  have l2 : 0 + (d.drop (s - p)).length ≤ (splice rs p (d.take (s - p))).length := by rw [e1]; simp; omega
  refine h.put hm (by rw [length_splice _ _ _ l2, e1]; exact h2) ?_
  intro j hj
  rw [splice_getD _ _ _ l2, splice_getD _ _ _ l1]
  simp only [List.length_take, List.length_drop]
  by_cases a : j < d.length - (s - p)
  · rw [if_pos ⟨Nat.zero_le _, by omega⟩, if_pos (by unfold wr; split <;> omega), getD_drop]
    congr 1
    unfold wr; split <;> omega
  · rw [if_neg (by omega)]
    by_cases b : p ≤ j ∧ j < p + min (s - p) d.length
    · rw [if_pos b, if_pos (by unfold wr; split <;> omega)]
      have e : wr s (j + s - p) = j - p := by unfold wr; split <;> omega
      rw [e]
      simp [List.getD, (by omega : j - p < s - p)]
    · rw [if_neg b, if_neg (by unfold wr; split <;> omega)]

/-- What has been told after n copies from dist places before. -/
def copyN (all : List Int) (dist : Nat) : Nat → List Int
  | 0 => all
  | n + 1 => copyN all dist n ++ [(copyN all dist n).getD ((copyN all dist n).length - dist) 0]
theorem copyN_len (all : List Int) (dist n : Nat) : (copyN all dist n).length = all.length + n := by
  induction n with
  | zero => rfl
  | succ n ih => simp [copyN, ih]; omega
theorem copyN_pre (all : List Int) (dist n : Nat) : (copyN all dist n).take all.length = all := by
  induction n with
  | zero => simp [copyN]
  | succ n ih =>
    rw [copyN, List.take_append_of_le_length (by rw [copyN_len]; omega), ih]
/-- The copied bytes. -/
def dataN (all : List Int) (dist n : Nat) : List Int := (copyN all dist n).drop all.length
theorem dataN_len (all : List Int) (dist n : Nat) : (dataN all dist n).length = n := by simp [dataN, copyN_len]
theorem dataN_succ (all : List Int) (dist n : Nat) : dataN all dist (n + 1) = dataN all dist n ++ [(copyN all dist n).getD ((copyN all dist n).length - dist) 0] := by
  unfold dataN
  rw [copyN, List.drop_append_of_le_length (by rw [copyN_len]; omega)]
theorem last_back (s : Nat) (a : List Int) (dist : Nat) (h1 : dist ≤ s) (h2 : dist ≤ a.length) : (lastN s a).getD ((lastN s a).length - dist) 0 = a.getD (a.length - dist) 0 := by
  rw [lastN_getD, lastN_len]
  congr 1
  omega
end Go.Proofs.Ytjknaigdlkpiaaa
