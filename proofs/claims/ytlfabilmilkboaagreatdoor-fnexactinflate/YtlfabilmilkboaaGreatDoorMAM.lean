import Derived.Test.YtlfabilmilkboaaGreatDoorMAL
namespace Go.Proofs.YtlfabilmilkboaaGreatDoor
open Go.RowKit
attribute [local go_sem ↓] Go.wp_at_zero Go.wp_at_succ
set_option linter.unusedVariables false

/-- Nothing but the table's two blocks has been written. -/
structure Upd (w w' : World) (p : Nat) : Prop where
  os : w'.os = w.os
  tape : w'.tape = w.tape
  output : w'.output = w.output
  size : w.heap.size ≤ w'.heap.size
  block : ∀ k, k < w.heap.size → k ≠ p → (∀ g m c, w.cell? ⟨p, 1024, none⟩ = some (.slice (some ⟨g, 0, none⟩) m c) → k ≠ g) → w'.heap[k]? = w.heap[k]?

theorem Ents.other {w : World} {g o n : Nat} {F : Nat → Nat × Nat} (h : Ents w g o n F) {f : Nat} (hf : f < o ∨ o + n * 2 ≤ f) (v : Value) : Ents (w.setCell ⟨g, f, none⟩ v) g o n F := by
  refine ⟨by simpa using h.lt, ?_, ?_, fun o => by rw [World.frozen?_setCell]; exact h.free o⟩
  · intro i hi
    rw [World.cell?_setCell_other _ _ _ _ (by first | (simp; done) | (simp; omega))]
    exact h.at0 i hi
  · intro i hi
    rw [World.cell?_setCell_other _ _ _ _ (by first | (simp; done) | (simp; omega))]
    exact h.at1 i hi
theorem ownsRow_lt {w : World} {B g N c k : Nat} {e : TypeId} {xs : List Value} (h : w.ownsRow B e k (.slice (some ⟨g, 0, none⟩) N c) N xs) : g < w.heap.size := (h.lt g rfl).2
/-- A row of arrays with one more behind it. -/
theorem long_push {w w4 : World} {B B' p m c c4 g4 : Nat} {lo : Option Addr} {xs news : List Value} {e : TypeId} {L : Nat → Nat → Nat × Nat}
    (how : w.ownsRow B e 128 (.slice lo m c) m xs) (hen : ∀ j, j < m → ∃ g, lo = some ⟨g, 0, none⟩ ∧ p < g ∧ Ents w g (j * 128) 64 (L j))
    (hown : w4.ownsRow B' e 128 (.slice (some ⟨g4, 0, none⟩) (m + 1) c4) (m + 1) (xs ++ news)) (h0 : ∀ i, i < 64 → news[i * 2]? = some (.int .i8 0)) (h1 : ∀ i, i < 64 → news[i * 2 + 1]? = some (.int .i16 0)) :
    ∀ j, j < m + 1 → Ents w4 g4 (j * 128) 64 (if j = m then fun _ => (0, 0) else L j) := by
  intro j hj
  have hxl : xs.length = m * 128 := how.1
  by_cases hjm : j = m
  · subst hjm
    rw [if_pos rfl]
    refine ⟨ownsRow_lt hown, fun i hi => ?_, fun i hi => ?_, fun o => hown.frozenAt o⟩
    · rw [hown.cellAt _ (by omega), List.getElem?_append_right (by omega), hxl, Nat.add_sub_cancel_left, h0 i hi]
      rfl
    · rw [hown.cellAt _ (by omega), List.getElem?_append_right (by omega), hxl, Nat.add_assoc, Nat.add_sub_cancel_left, h1 i hi]
      rfl
  · rw [if_neg hjm]
    obtain ⟨g, rfl, _, hE⟩ := hen j (by omega)
    refine ⟨ownsRow_lt hown, fun i hi => ?_, fun i hi => ?_, fun o => hown.frozenAt o⟩
    · rw [hown.cellAt _ (by omega), List.getElem?_append_left (by omega), ← how.cellAt _ (by omega)]
      exact hE.at0 i hi
    · rw [hown.cellAt _ (by omega), List.getElem?_append_left (by omega), ← how.cellAt _ (by omega)]
      exact hE.at1 i hi
theorem wrap_i16 (m : Nat) (h : m ≤ 512) : IntKind.i16.wrap (m : Int) = (m : Int) := by simp [IntKind.wrap, IntKind.bits, IntKind.signed]; omega

theorem Tryz.info_arr : (Tryz.prog.info? 183).map (fun i => (i.zero, i.size, i.bytes)) = some (some (.agg Tryz.zeroCells183), 128, 256) := by kernel_rfl
theorem zeroArr_size : Tryz.zeroCells183.size = 128 := by kernel_rfl
set_option maxRecDepth 100000 in
set_option maxHeartbeats 6400000 in
/-- link where there is one. -/
theorem link_has (p m f : Nat) (S : Nat → Nat × Nat) (L : Nat → Nat → Nat × Nat) (w : World) (hT : Tab w p S m L) (hf : f < 512) (h16 : (S f).1 = 16) (hl2 : (S f).2 ≤ 512) :
    Calls Tryz.prog 98 #[.pointer (some ⟨p, 0, none⟩), .int .u64 f] w fun e w' => e = .returned (.int .i16 ((S f).2 : Nat)) ∧ w' = w := by
  obtain ⟨E1, hE1⟩ : ∃ e, (S f).2 = e := ⟨_, rfl⟩
  have c0 := hT.short.at0 f hf
  have c1 := hT.short.at1 f hf
  rw [h16] at c0
  rw [hE1] at c1 hl2
  rw [hE1]
  rw [Nat.zero_add] at c0 c1
  have hpw := hT.short.lt
  clear hT hE1 h16
  go_enter Tryz.func98, Tryz.ntmps98
  go_wp2_with fail
  go_ret
  exact ⟨rfl, rfl⟩

end Go.Proofs.YtlfabilmilkboaaGreatDoor
namespace Go.Proofs.YtlfabilmilkboaaGreatDoor
open Go.RowKit
attribute [local go_sem ↓] Go.wp_at_zero Go.wp_at_succ
set_option linter.unusedVariables false

def zz : Nat → List Value
  | 0 => []
  | k + 1 => zz k ++ [.int .i8 0, .int .i16 0]
theorem zz_len (k : Nat) : (zz k).length = k * 2 := by
  induction k with
  | zero => rfl
  | succ k ih => simp [zz, ih]; omega
theorem zz_at (k i : Nat) (h : i < k) : (zz k)[i * 2]? = some (.int .i8 0) ∧ (zz k)[i * 2 + 1]? = some (.int .i16 0) := by
  induction k with
  | zero => omega
  | succ k ih =>
    have hl := zz_len k
    rw [zz]
    by_cases h1 : i < k
    · rw [List.getElem?_append_left (by omega), List.getElem?_append_left (by omega)]; exact ih h1
    · have h2 : i = k := by omega
      subst h2
      rw [List.getElem?_append_right (by omega), List.getElem?_append_right (by omega), hl, Nat.sub_self, Nat.add_sub_cancel_left]
      exact ⟨rfl, rfl⟩
theorem zeroArr_eq : Tryz.zeroCells183.toList = zz 64 := by kernel_rfl
theorem zeroArr_one : Tryz.zeroCells183.toList.all (fun u => u.oneCell') = true := by kernel_rfl
theorem alloc_at (w : World) (A : Array Value) (e : TypeId) (j : Nat) (u : Value) (h : A.toList[j]? = some u) : (w.alloc (.cells A e)).cell? ((⟨w.heap.size, 0, none⟩ : Addr).add j) = some u := by
  have h2 : A[j]? = some u := by simpa using h
  simp [go_sem, h2]

theorem link_fin {w w3 w4 : World} {p m c : Nat} {lo : Option Addr} {xs : List Value} {e : TypeId} {S : Nat → Nat × Nat} {L : Nat → Nat → Nat × Nat} {v4 : Value} {A : Array Value} (he : e = 183) (hpw : p < w.heap.size) (hO3 : Only w w3 p 0 1024) (hE3 : Ents w3 p 0 512 S) (hcl : w.cell? ⟨p, 1024, none⟩ = some (.slice lo m c))
    (how : w.ownsRow (p + 1) e 128 (.slice lo m c) m xs) (hen : ∀ j, j < m → ∃ g, lo = some ⟨g, 0, none⟩ ∧ p < g ∧ Ents w g (j * 128) 64 (L j))
    (hgrow : (w3.alloc (.cells A e)).grownBy w4 (Value.slice lo m c).ownBlock) (hown : w4.ownsRow (p + 1) e 128 v4 (m + 1) (xs ++ zz 64)) :
    ∃ g4 c4, v4 = .slice (some ⟨g4, 0, none⟩) (m + 1) c4 ∧ w4.cell? ⟨p, 1024, none⟩ = some (.slice lo m c) ∧ w4.frozen? ⟨p, 1024, none⟩ = false ∧
      Tab (w4.setCell ⟨p, 1024, none⟩ (.slice (some ⟨g4, 0, none⟩) (m + 1) c4)) p S (m + 1) (fun j => if j = m then fun _ => (0, 0) else L j) ∧ Upd w (w4.setCell ⟨p, 1024, none⟩ (.slice (some ⟨g4, 0, none⟩) (m + 1) c4)) p := by
  subst he
  obtain ⟨g4, c4, rfl⟩ : ∃ g4 c4, v4 = .slice (some ⟨g4, 0, none⟩) (m + 1) c4 := by
    rcases hown.2 with ⟨_, h0⟩ | ⟨g', cap', cur, h', _⟩
    · omega
    · exact ⟨g', cap', h'⟩
  have hlp : some p ≠ (Value.slice lo m c).ownBlock := by
    cases lo with
    | none => simp [Value.ownBlock]
    | some a => have := (how.lt a.block rfl).1; simp [Value.ownBlock]; omega
  have hb3 : Below w3.heap.size w3 (w3.alloc (.cells A 183)) := (Below.refl _ _).alloc (Nat.le_refl _) _
  have hEa := hE3.below hb3
  have hE4 := hEa.grown hgrow hlp
  have hcl3 := (hO3.rest 1024 (by omega)).trans hcl
  have hb : ∀ k, k < w3.heap.size → some k ≠ (Value.slice lo m c).ownBlock → w4.heap[k]? = w3.heap[k]? := fun k hk hne =>
    (hgrow.block k (Nat.lt_of_lt_of_le hk (grownBy_of_below hb3 none).size) hne).trans ((grownBy_of_below hb3 none).block k hk (by simp))
  have hcl4 := (World.cell?_of_block (a := ⟨p, 1024, none⟩) (hb p hE3.lt hlp)).trans hcl3
  have hpg : p + 1 ≤ g4 := (hown.lt g4 rfl).1
  have hs := grownBy_setCell w4 ⟨p, 1024, none⟩ (.slice (some ⟨g4, 0, none⟩) (m + 1) c4)
  have hlong := long_push how hen hown (fun i hi => (zz_at 64 i hi).1) (fun i hi => (zz_at 64 i hi).2)
  refine ⟨g4, c4, rfl, hcl4, hE4.free 1024, ⟨hE4.other (.inr (by omega)) _, some ⟨g4, 0, none⟩, c4, xs ++ zz 64, ?_, ?_, ?_⟩, ?_⟩
  · rw [World.cell?_setCell_same _ _ _ hcl4]
  · exact hown.kept hs (.inr (by simp [Value.ownBlock]; omega))
  · intro j hj
    exact ⟨g4, rfl, by omega, (hlong j hj).grown hs (by simp; omega)⟩
  · have ga := hO3.grown
    have gb := grownBy_of_below hb3 none
    refine ⟨?_, ?_, ?_, ?_, ?_⟩
    · exact hs.os.trans (hgrow.os.trans (gb.os.trans ga.os))
    · exact hs.tape.trans (hgrow.tape.trans (gb.tape.trans ga.tape))
    · exact hs.output.trans (hgrow.output.trans (gb.output.trans ga.output))
    · exact Nat.le_trans ga.size (Nat.le_trans gb.size (Nat.le_trans hgrow.size hs.size))
    · intro k hk hkp hkg
      have hne : some k ≠ (Value.slice lo m c).ownBlock := by
        rcases how.2 with ⟨h', _⟩ | ⟨g', cap', cur, h', _⟩
        · rw [h']; simp [Value.ownBlock]
        · rw [h'] at hcl ⊢
          have := hkg g' m cap' hcl
          simpa [Value.ownBlock] using this
      exact (hs.block k (Nat.lt_of_lt_of_le hk (Nat.le_trans ga.size (Nat.le_trans gb.size hgrow.size))) (by simpa using hkp)).trans ((hb k (Nat.lt_of_lt_of_le hk ga.size) hne).trans (ga.block k hk (by simpa using hkp)))

set_option maxRecDepth 100000 in
set_option maxHeartbeats 6400000 in
/-- link where there is none. -/
theorem link_new (p m f : Nat) (S : Nat → Nat × Nat) (L : Nat → Nat → Nat × Nat) (w : World) (hT : Tab w p S m L) (hf : f < 512) (hm : m ≤ 512) (h16 : ¬ (S f).1 = 16) (hl1 : (S f).1 ≤ 16) (hl2 : (S f).2 ≤ 512) :
    Calls Tryz.prog 98 #[.pointer (some ⟨p, 0, none⟩), .int .u64 f] w fun e w' => e = .returned (.int .i16 m) ∧ Tab w' p (fun i => if i = f then (16, m) else S i) (m + 1) (fun j => if j = m then fun _ => (0, 0) else L j) ∧ Upd w w' p := by
  obtain ⟨E0, hE0⟩ : ∃ e, (S f).1 = e := ⟨_, rfl⟩
  obtain ⟨E1, hE1⟩ : ∃ e, (S f).2 = e := ⟨_, rfl⟩
  obtain ⟨i0, hi, hz0, hz1, hz2⟩ := info_parts Tryz.info_arr
  have c0 := hT.short.at0 f hf
  have c1 := hT.short.at1 f hf
  rw [hE0] at c0 hl1 h16
  rw [hE1] at c1 hl2
  rw [Nat.zero_add] at c0 c1
  have hpw := hT.short.lt
  have b16 : ((E0 : Int) != 16) = true := by simp; omega
  obtain ⟨hsh, lo, c, xs, hcl, how, hen⟩ := hT
  obtain ⟨hE2, hO2⟩ := hsh.set hf 16 m
  rw [Nat.zero_add] at hE2 hO2
  have f0 := hsh.free (f * 2)
  have f1 := hsh.free (f * 2 + 1)
  have hcl2 := (hO2.rest 1024 (by omega)).trans hcl
  have how2 := how.kept hO2.grown (by
    cases lo with
    | none => exact .inl rfl
    | some a => exact .inr (by have := (how.lt a.block rfl).1; simp [Value.ownBlock]; omega))
  have hcg : ∀ k, w.cell? ⟨p, 1024, none⟩ = some k → k = .slice lo m c := fun k h => by rw [hcl] at h; exact (Option.some.inj h).symm
  have HE2 := hideH hE2
  have HO2 := hideH hO2
  have HOW := hideH how
  have HOW2 := hideH how2
  have HEN := hideH hen
  have HCL := hideH hcl
  have hmw := wrap_i16 m hm
  clear h16 hsh hE2 hO2 how hen how2 hcg hE0 hE1
  go_enter Tryz.func98, Tryz.ntmps98
  go_upto_region 2 with fail
  go_region
  have hw3 : ∃ w3 : World, w3 = ((w.setCell ⟨p, f * 2, none⟩ (.int .i8 16)).setCell ⟨p, f * 2 + 1, none⟩ (.int .i16 m)).drew := ⟨_, rfl⟩
  obtain ⟨w3, hw3⟩ := hw3
  have HO3 : Hid (Only w w3 p 0 1024) := by rw [hw3]; exact HO2.out.trans (Only.below HE2.out.lt ((Below.refl _ _).drew))
  have HE3 : Hid (Ents w3 p 0 512 (fun i => if i = f then (16, m) else S i)) := by rw [hw3]; exact HE2.out.below ((Below.refl _ _).drew)
  have HOW3 : Hid (w3.ownsRow (p + 1) 183 128 (.slice lo m c) m xs) := by rw [hw3]; exact HOW2.out
  have hcl3 : w3.cell? ⟨p, 1024, none⟩ = some (.slice lo m c) := by rw [hw3]; exact hcl2
  rw [← hw3]
  have hpw3 := HE3.out.lt
  have HN := hideH (fun (A : Array Value) (hA : A = Tryz.zeroCells183) (j : Nat) (u : Value) (h : Tryz.zeroCells183.toList[j]? = some u) => alloc_at w3 A 183 j u (by rw [hA]; exact h))
  have HOW4 := hideH (fun (A : Array Value) => ownsRow_up HOW3.out ((Below.refl _ _).alloc (Nat.le_refl _) (.cells A 183)))
  clear hw3 hcl2 HE2 HO2 HOW2 hcl c0 c1 f0 f1
  go_wp2_with (at_builtin; refine wpList_append_cells _ rfl _ _ 148 rfl (p + 1) 183 i0 (.agg Tryz.zeroCells183) 128 256 Tryz.underlying148 hi hz0 hz1 hz2 ?hzs ?hpos (.slice lo m c) m xs rfl (HOW4.out _) ⟨w3.heap.size, 0, none⟩ 1 1 Tryz.zeroCells183.toList rfl ?hlen (HN.out _ ?hA) ?hone ?h63 ?hby ?hbase ?hgo)
  case hzs => exact zeroArr_size
  case hpos => decide
  case hlen => rw [Array.length_toList]; exact zeroArr_size
  case hA => kernel_rfl
  case hone => exact fun u hu => List.all_eq_true.1 zeroArr_one u hu
  case h63 => unfold maxLen; omega
  case hby => omega
  case hbase => simp; omega
  intro v4 w4 hown hgrow
  rw [zeroArr_eq] at hown
  obtain ⟨g4, c4, rfl, hc4, hf4, hT5, hU5⟩ := link_fin rfl hpw HO3.out HE3.out HCL.out HOW.out HEN.out hgrow hown
  have a1 := hT5.short.at1 f hf
  rw [Nat.zero_add, if_pos rfl] at a1
  have HT5 := hideH hT5
  have HU5 := hideH hU5
  clear hown hgrow hT5 hU5 HN HOW3 HOW4 HE3 HO3 HOW HEN HCL hcl3 hpw3
  go_wp2_with fail
  go_ret
  exact ⟨rfl, HT5.out, HU5.out⟩

end Go.Proofs.YtlfabilmilkboaaGreatDoor
namespace Go.Proofs.YtlfabilmilkboaaGreatDoor
open Go.RowKit
attribute [local go_sem ↓] Go.wp_at_zero Go.wp_at_succ
set_option linter.unusedVariables false

theorem Upd.only {w w' : World} {p : Nat} (h : Only w w' p 0 1024) : Upd w w' p :=
  ⟨h.grown.os, h.grown.tape, h.grown.output, h.grown.size, fun k hk hp _ => h.grown.block k hk (by simpa using hp)⟩
/-- spread into short. -/
theorem Tab.short_set {w w' : World} {p m : Nat} {S S' : Nat → Nat × Nat} {L : Nat → Nat → Nat × Nat} (h : Tab w p S m L) (hE : Ents w' p 0 512 S') (hO : Only w w' p 0 1024) : Tab w' p S' m L := by
  obtain ⟨h1, lo, c, xs, h2, h3, h4⟩ := h
  refine ⟨hE, lo, c, xs, (hO.rest 1024 (by omega)).trans h2, ?_, fun j hj => ?_⟩
  · refine h3.kept hO.grown ?_
    cases lo with
    | none => exact .inl rfl
    | some a => exact .inr (by have := (h3.lt a.block rfl).1; simp [Value.ownBlock]; omega)
  · obtain ⟨g, e, h5, h6⟩ := h4 j hj
    exact ⟨g, e, h5, h6.grown hO.grown (by simp; omega)⟩

set_option maxRecDepth 100000 in
set_option maxHeartbeats 6400000 in
theorem put_short (p m s X Y P : Nat) (S : Nat → Nat × Nat) (L : Nat → Nat → Nat × Nat) (w : World) (hT : Tab w p S m L) (hs : s ≤ 320) (hX0 : 0 < X) (hX : X ≤ 9) (hP : 2 ^ X = P) (hY : Y < P) :
    Calls Tryz.prog 83 #[.pointer (some ⟨p, 0, none⟩), .int .i16 s, .agg #[.int .i64 X, .int .u64 Y]] w fun e w' => e = .returned (.tuple #[]) ∧ Tab w' p (fun i => if i % P = Y then (X, s) else S i) m L ∧ Upd w w' p := by
  obtain ⟨w2, hw2⟩ : ∃ w2, (w.alloc (.cells #[.int .i64 X, .int .u64 Y] 109)).alloc (.cells #[.int .i8 X, .int .i16 s] 146) = w2 := ⟨_, rfl⟩
  have hb2 : Below w.heap.size w w2 := by
    rw [← hw2]
    exact ((Below.refl _ _).alloc (Nat.le_refl _) _).alloc (by simp) _
  have hpw := hT.short.lt
  have hX8 : IntKind.i8.wrap (X : Int) = (X : Int) := by simp [IntKind.wrap, IntKind.bits, IntKind.signed]; omega
  have p0 : w2.cell? ⟨w.heap.size, 0, none⟩ = some (.int .i64 X) := by rw [← hw2]; simp [go_sem]
  have p1 : w2.cell? ⟨w.heap.size, 1, none⟩ = some (.int .u64 Y) := by rw [← hw2]; simp [go_sem]
  have p2 : w2.cell? ⟨w.heap.size + 1, 0, none⟩ = some (.int .i8 X) := by rw [← hw2]; simp [go_sem]
  have p3 : w2.cell? ⟨w.heap.size + 1, 1, none⟩ = some (.int .i16 s) := by rw [← hw2]; simp [go_sem]
  have HT := hideH hT
  have HT2 := hideH (hT.below hb2)
  have HB2 := hideH hb2
  have HSP := hideH (fun W (hW : Below w2.heap.size w2 W) => spread_any p 0 512 Y X X s P S W ((HT2.out.below hW).short) (by omega) hX hP hY)
  have b9 : decide ((X : Int) ≤ 9) = true := decide_eq_true (by omega)
  clear hT hb2 hP
  go_enter Tryz.func83, Tryz.ntmps83
  go_upto_region 3 with fail
  have hl0 := World.block_lt_of_cell? w2 _ p0
  have hl1 := World.block_lt_of_cell? w2 _ p2
  have HW2 := hideH hw2
  clear hw2
  go_region_held3 (fun w' => w'.cell? ⟨w.heap.size, 0, none⟩ = some (.int .i64 X) ∧ w'.cell? ⟨w.heap.size, 1, none⟩ = some (.int .u64 Y) ∧ w'.cell? ⟨w.heap.size + 1, 0, none⟩ = some (.int .i8 X) ∧ w'.cell? ⟨w.heap.size + 1, 1, none⟩ = some (.int .i16 s))
    (first | (refine ⟨?_, ?_, ?_, ?_⟩ <;> with_reducible assumption) | (go_keep; done))
    ((go_at_call 97; refine Calls.mono (HSP.out _ ((Below.refl _ _).drew)) ?_; rintro e w7 ⟨rfl, hE7, hO7⟩; have q0 := (World.cell?_of_block (w := w2.drew) (a := ⟨w.heap.size, 0, none⟩) (hO7.grown.block w.heap.size hl0 (by simp; omega))).trans p0; have q1 := (World.cell?_of_block (w := w2.drew) (a := ⟨w.heap.size, 1, none⟩) (hO7.grown.block w.heap.size hl0 (by simp; omega))).trans p1; have q2 := (World.cell?_of_block (w := w2.drew) (a := ⟨w.heap.size + 1, 0, none⟩) (hO7.grown.block (w.heap.size + 1) hl1 (by simp; omega))).trans p2; have q3 := (World.cell?_of_block (w := w2.drew) (a := ⟨w.heap.size + 1, 1, none⟩) (hO7.grown.block (w.heap.size + 1) hl1 (by simp; omega))).trans p3))
  have hbd : Below w.heap.size w w2.drew := HB2.out.trans (((Below.refl _ _).drew).mono HB2.out.size)
  have hOw : Only w w7 p 0 1024 := (Only.below hpw hbd).trans hO7
  have HF := hideH (Tab.short_set HT.out hE7 hOw)
  have HU := hideH (Upd.only hOw)
  clear hbd hOw hE7 hO7
  go_wp2_with fail
  exact bodyPost_ret (v := .tuple #[]) (results_none rfl _ _ _) rfl ⟨rfl, HF.out, HU.out⟩

end Go.Proofs.YtlfabilmilkboaaGreatDoor
namespace Go.Proofs.YtlfabilmilkboaaGreatDoor
open Go.RowKit
attribute [local go_sem ↓] Go.wp_at_zero Go.wp_at_succ
set_option linter.unusedVariables false

theorem Upd.keeps {w w2 w3 : World} {p m : Nat} {S : Nat → Nat × Nat} {L : Nat → Nat → Nat × Nat} (hT : Tab w p S m L) (hb : Below w.heap.size w w2) (hU : Upd w2 w3 p) (k : Nat) (hk : w.heap.size ≤ k) (hk2 : k < w2.heap.size) : w3.heap[k]? = w2.heap[k]? := by
  have hp := hT.short.lt
  obtain ⟨lo, c, xs, h2, h3, h4⟩ := hT.long
  have e := (World.cell?_of_block (a := ⟨p, 1024, none⟩) ((grownBy_of_below hb none).block p hp (by simp))).trans h2
  refine hU.block k hk2 (by omega) (fun g m' c' h => ?_)
  rw [e] at h
  have h5 := Option.some.inj h
  rw [h5] at h3
  have := (h3.lt g rfl).2
  omega
/-- spread into one of long's arrays. -/
theorem Tab.long_set {w w' : World} {p m q g c : Nat} {S : Nat → Nat × Nat} {L : Nat → Nat → Nat × Nat} {F : Nat → Nat × Nat} (h : Tab w p S m L) (hq : q < m)
    (hc : w.cell? ⟨p, 1024, none⟩ = some (.slice (some ⟨g, 0, none⟩) m c)) (hE : Ents w' g (q * 128) 64 F) (hO : Only w w' g (q * 128) (64 * 2)) : Tab w' p S m (fun j => if j = q then F else L j) := by
  obtain ⟨h1, lo, c', xs', h2, h3, h4⟩ := h
  rw [hc] at h2
  have e := Option.some.inj h2
  simp only [Value.slice.injEq, true_and] at e
  obtain ⟨rfl, rfl⟩ := e
  have hpg : p + 1 ≤ g := (h3.lt g rfl).1
  obtain ⟨ys, h3'⟩ := hO.owns _ _ _ _ _ _ h3
  refine ⟨h1.grown hO.grown (by simp; omega), some ⟨g, 0, none⟩, c, ys, (World.cell?_of_block (a := ⟨p, 1024, none⟩) (hO.grown.block p h1.lt (by simp; omega))).trans hc, h3', fun j hj => ⟨g, rfl, by omega, ?_⟩⟩
  by_cases hjq : j = q
  · subst hjq
    rw [if_pos rfl]
    exact hE
  · rw [if_neg hjq]
    obtain ⟨g', e', _, h5⟩ := h4 j hj
    simp only [Option.some.injEq, Addr.mk.injEq, and_true] at e'
    subst e'
    refine ⟨hE.lt, fun i hi => ?_, fun i hi => ?_, hE.free⟩
    · rw [hO.rest _ (by omega)]; exact h5.at0 i hi
    · rw [hO.rest _ (by omega)]; exact h5.at1 i hi

end Go.Proofs.YtlfabilmilkboaaGreatDoor
namespace Go.Proofs.YtlfabilmilkboaaGreatDoor
open Go.RowKit
attribute [local go_sem ↓] Go.wp_at_zero Go.wp_at_succ
set_option linter.unusedVariables false

theorem Upd.beneath {w w' : World} {p m B : Nat} {S : Nat → Nat × Nat} {L : Nat → Nat → Nat × Nat} (hT : Tab w p S m L) (hU : Upd w w' p) (hB : B ≤ p) : Below B w w' := by
  have hp := hT.short.lt
  refine ⟨hU.os, hU.tape, hU.output, hU.size, fun k hk => hU.block k (by omega) (by omega) (fun g m' c h => ?_)⟩
  obtain ⟨lo, c2, xs, h2, h3, _⟩ := hT.long
  rw [h2] at h
  have h5 := Option.some.inj h
  rw [h5] at h3
  have := (h3.lt g rfl).1
  omega
theorem cell_off {w : World} {k : Nat} {A : Array Value} {e : TypeId} {fz : Nat × Nat} {B g N c n : Nat} {e' : TypeId} {xs : List Value} (h : w.heap[k]? = some (.cells A e fz)) (ho : w.ownsRow B e' n (.slice (some ⟨g, 0, none⟩) N c) N xs) (hne : e ≠ e') : k ≠ g := by
  rintro rfl
  rcases ho.2 with ⟨h', _⟩ | ⟨g', cap', cur, h', _, hg, _⟩
  · simp at h'
  · simp only [Value.slice.injEq, Option.some.injEq, Addr.mk.injEq, and_true, true_and] at h'
    obtain ⟨rfl, rfl⟩ := h'
    rw [h] at hg
    simp only [Option.some.injEq, Obj.cells.injEq] at hg
    exact hne hg.2.1

theorem alloc2_heap (w : World) (A B : Array Value) (e e' : TypeId) : ((w.alloc (.cells A e)).alloc (.cells B e')).heap[w.heap.size]? = some (.cells A e (0, 0)) ∧ ((w.alloc (.cells A e)).alloc (.cells B e')).heap[w.heap.size + 1]? = some (.cells B e' (0, 0)) := by
  constructor
  · simp only [World.alloc, Array.getElem?_push, Array.size_push]
    simp
  · simp only [World.alloc, Array.getElem?_push, Array.size_push]
    simp

set_option maxRecDepth 100000 in
set_option maxHeartbeats 6400000 in
theorem put_long (p m s X Y P F Y2 q m' : Nat) (S S' : Nat → Nat × Nat) (L L' : Nat → Nat → Nat × Nat) (w : World) (hT : Tab w p S m L) (hs : s ≤ 320) (hX0 : 9 < X) (hX : X ≤ 15) (hP : 2 ^ (X - 9) = P) (hY : Y < 32768) (hF : Y % 512 = F) (hY2 : Y / 512 = Y2) (hY3 : Y2 < P) (hq : q < m') (hm : m' ≤ 513)
    (hlink : ∀ W, Tab W p S m L → Calls Tryz.prog 98 #[.pointer (some ⟨p, 0, none⟩), .int .u64 F] W fun e w' => e = .returned (.int .i16 q) ∧ Tab w' p S' m' L' ∧ Upd W w' p) :
    Calls Tryz.prog 83 #[.pointer (some ⟨p, 0, none⟩), .int .i16 s, .agg #[.int .i64 X, .int .u64 Y]] w fun e w' => e = .returned (.tuple #[]) ∧ Tab w' p S' m' (fun j => if j = q then fun i => if i % P = Y2 then (X, s) else L' q i else L' j) ∧ ∀ B, B ≤ p → Below B w w' := by
  obtain ⟨w2, hw2⟩ : ∃ w2, (w.alloc (.cells #[.int .i64 X, .int .u64 Y] 109)).alloc (.cells #[.int .i8 X, .int .i16 s] 146) = w2 := ⟨_, rfl⟩
  have hb2 : Below w.heap.size w w2 := by
    rw [← hw2]
    exact ((Below.refl _ _).alloc (Nat.le_refl _) _).alloc (by simp) _
  have hpw := hT.short.lt
  have hX8 : IntKind.i8.wrap (X : Int) = (X : Int) := by simp [IntKind.wrap, IntKind.bits, IntKind.signed]; omega
  have p0 : w2.cell? ⟨w.heap.size, 0, none⟩ = some (.int .i64 X) := by rw [← hw2]; simp [go_sem]
  have p1 : w2.cell? ⟨w.heap.size, 1, none⟩ = some (.int .u64 Y) := by rw [← hw2]; simp [go_sem]
  have p2 : w2.cell? ⟨w.heap.size + 1, 0, none⟩ = some (.int .i8 X) := by rw [← hw2]; simp [go_sem]
  have p3 : w2.cell? ⟨w.heap.size + 1, 1, none⟩ = some (.int .i16 s) := by rw [← hw2]; simp [go_sem]
  have HT := hideH hT
  have HLK := hideH (hlink w2 (hT.below hb2))
  have HB2 := hideH hb2
  have b9 : decide ((X : Int) ≤ 9) = false := decide_eq_false (by omega)
  have hFi : (Y : Int) % 512 = (F : Int) := by omega
  have hFt : (Y : Int).tmod 512 = (F : Int) := by rw [Int.tmod_eq_emod_of_nonneg (by omega)]; exact hFi
  have HW2 := hideH hw2
  have HP := hideH hP
  have hl0 := World.block_lt_of_cell? w2 _ p0
  have hl1 := World.block_lt_of_cell? w2 _ p2
  clear hT hb2 hP hlink
  go_enter Tryz.func83, Tryz.ntmps83
  go_wp2_with (go_at_call 98; refine Calls.mono HLK.out ?_)
  intro e w3 he hT3 hU3
  subst he
  have hk0 := Upd.keeps HT.out HB2.out hU3 w.heap.size (Nat.le_refl _) hl0
  have hk1 := Upd.keeps HT.out HB2.out hU3 (w.heap.size + 1) (by omega) hl1
  have q0 := (World.cell?_of_block (a := ⟨w.heap.size, 0, none⟩) hk0).trans p0
  have q1 := (World.cell?_of_block (a := ⟨w.heap.size, 1, none⟩) hk0).trans p1
  have q2 := (World.cell?_of_block (a := ⟨w.heap.size + 1, 0, none⟩) hk1).trans p2
  have q3 := (World.cell?_of_block (a := ⟨w.heap.size + 1, 1, none⟩) hk1).trans p3
  obtain ⟨lo3, c3, xs3, hc3, ho3, hen3⟩ := hT3.long
  obtain ⟨g, rfl, hpg, hEq⟩ := hen3 q hq
  have hg0 : w.heap.size ≠ g := cell_off (hk0.trans (by rw [← HW2.out]; exact (alloc2_heap w _ _ _ _).1)) ho3 (by decide)
  have hg1 : w.heap.size + 1 ≠ g := cell_off (hk1.trans (by rw [← HW2.out]; exact (alloc2_heap w _ _ _ _).2)) ho3 (by decide)
  have hl3 := Nat.lt_of_lt_of_le hl0 hU3.size
  have hl4 := Nat.lt_of_lt_of_le hl1 hU3.size
  have HSP := hideH (fun W (hW : Below w3.heap.size w3 W) => spread_any g (q * 128) 64 Y2 (X - 9) X s P (L' q) W (hEq.below hW) (by omega) (by omega) HP.out hY3)
  have HT3 := hideH hT3
  have HU3 := hideH hU3
  have hgw := hEq.lt
  have hY2i : (Y : Int) / 512 = (Y2 : Int) := by omega
  have hX9 : ((X - 9 : Nat) : Int) = (X : Int) - 9 := by omega
  have hX9w : IntKind.i64.wrap ((X - 9 : Nat) : Int) = ((X - 9 : Nat) : Int) := by rw [IntKind.wrap_i64]; omega
  obtain ⟨X9, hXX⟩ : ∃ x, X - 9 = x := ⟨_, rfl⟩
  rw [hXX] at HSP hX9 hX9w
  have hY2w : IntKind.u64.wrap (Y2 : Int) = (Y2 : Int) := by rw [IntKind.wrap_u64]; omega
  have hqm : (q : Int) < (m' : Int) := by omega
  have hq0 : (0 : Int) ≤ (q : Int) := by omega
  have hX9' : (X : Int) - 9 = (X9 : Int) := hX9.symm
  clear hT3 hU3 hEq hen3 ho3 p0 p1 p2 p3 hX9 hXX hk0 hk1
  have hp3 := HT3.out.short.lt
  go_upto_region 5 with fail
  clear hw2
  go_region_held3 (fun w' => w'.cell? ⟨w.heap.size, 0, none⟩ = some (.int .i64 X) ∧ w'.cell? ⟨w.heap.size, 1, none⟩ = some (.int .u64 Y) ∧ w'.cell? ⟨w.heap.size + 1, 0, none⟩ = some (.int .i8 X) ∧ w'.cell? ⟨w.heap.size + 1, 1, none⟩ = some (.int .i16 s) ∧ w'.cell? ⟨p, 1024, none⟩ = some (.slice (some ⟨g, 0, none⟩) m' c3))
    (first | (refine ⟨?_, ?_, ?_, ?_, ?_⟩ <;> with_reducible assumption) | (go_keep; done))
    ((go_at_call 97; refine Calls.mono (HSP.out _ ((Below.refl _ _).drew)) ?_; rintro e w7 ⟨rfl, hE7, hO7⟩; have r0 := (World.cell?_of_block (w := w3.drew) (a := ⟨w.heap.size, 0, none⟩) (hO7.grown.block (w.heap.size) hl3 (by simp; omega))).trans q0; have r1 := (World.cell?_of_block (w := w3.drew) (a := ⟨w.heap.size, 1, none⟩) (hO7.grown.block (w.heap.size) hl3 (by simp; omega))).trans q1; have r2 := (World.cell?_of_block (w := w3.drew) (a := ⟨w.heap.size + 1, 0, none⟩) (hO7.grown.block (w.heap.size + 1) hl4 (by simp; omega))).trans q2; have r3 := (World.cell?_of_block (w := w3.drew) (a := ⟨w.heap.size + 1, 1, none⟩) (hO7.grown.block (w.heap.size + 1) hl4 (by simp; omega))).trans q3; have r4 := (World.cell?_of_block (w := w3.drew) (a := ⟨p, 1024, none⟩) (hO7.grown.block p hp3 (by simp; omega))).trans hc3))
  have hO8 : Only w3 w7 g (q * 128) (64 * 2) := (Only.below hgw ((Below.refl _ _).drew)).trans hO7
  have HF := hideH (Tab.long_set HT3.out hq hc3 hE7 hO8)
  have HBB : Hid (∀ B, B ≤ p → Below B w w7) := fun B hB => by
    have x1 := HB2.out.mono (show B ≤ w.heap.size by omega)
    have x2 : Below B w2 w3 := Upd.beneath (HT.out.below HB2.out) HU3.out hB
    have x3 := x1.trans x2
    exact x3.grown hO8.grown (by have := x3.size; omega) (fun k e => by simp at e; omega)
  clear hO8 hO7 hE7
  go_wp2_with fail
  go_end0
  exact ⟨rfl, HF.out, HBB.out⟩

end Go.Proofs.YtlfabilmilkboaaGreatDoor
