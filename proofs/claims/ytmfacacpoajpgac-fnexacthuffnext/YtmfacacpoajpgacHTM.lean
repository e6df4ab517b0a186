import Derived.Test.YtmfacacpoajpgacHTL
namespace Go.Proofs.Ytmfacacpoajpgac
open Go.RowKit
attribute [local go_sem ↓] Go.wp_at_zero Go.wp_at_succ
set_option linter.unusedVariables false

def zz : Nat → List Value
  | 0 => []
  | k + 1 => zz k ++ [.int .i8 0, .int .i16 0]
theorem zz_len (k : Nat) : (zz k).length = k * 2 := by
  induction k with
  | zero => rfl
  | succ k ih => simp [zz, ih]; omega
theorem zz_at (k i : Nat) (h : i < k) : (zz k)[i * 2]? = some (.int .i8 0) ∧ (zz k)[i * 2 + 1]? = some (.int .i16 0) := by
  induction k with
  | zero => omega
  | succ k ih =>
    have hl := zz_len k
    rw [zz]
    by_cases h1 : i < k
    · rw [List.getElem?_append_left (by omega), List.getElem?_append_left (by omega)]; exact ih h1
    · have h2 : i = k := by omega
      subst h2
      rw [List.getElem?_append_right (by omega), List.getElem?_append_right (by omega), hl, Nat.sub_self, Nat.add_sub_cancel_left]
      exact ⟨rfl, rfl⟩
theorem zeroArr_eq : Try.zeroCells99.toList = zz 64 := by kernel_rfl
theorem zeroArr_one : Try.zeroCells99.toList.all (fun u => u.oneCell') = true := by kernel_rfl
theorem alloc_at (w : World) (A : Array Value) (e : TypeId) (j : Nat) (u : Value) (h : A.toList[j]? = some u) : (w.alloc (.cells A e)).cell? ((⟨w.heap.size, 0, none⟩ : Addr).add j) = some u := by
  have h2 : A[j]? = some u := by simpa using h
  simp [go_sem, h2]

theorem link_fin {w w3 w4 : World} {p m c : Nat} {lo : Option Addr} {xs : List Value} {e : TypeId} {S : Nat → Nat × Nat} {L : Nat → Nat → Nat × Nat} {v4 : Value} {A : Array Value} (he : e = 99) (hpw : p < w.heap.size) (hO3 : Only w w3 p 0 1024) (hE3 : Ents w3 p 0 512 S) (hcl : w.cell? ⟨p, 1024, none⟩ = some (.slice lo m c))
    (how : w.ownsRow (p + 1) e 128 (.slice lo m c) m xs) (hen : ∀ j, j < m → ∃ g, lo = some ⟨g, 0, none⟩ ∧ p < g ∧ Ents w g (j * 128) 64 (L j))
    (hgrow : (w3.alloc (.cells A e)).grownBy w4 (Value.slice lo m c).ownBlock) (hown : w4.ownsRow (p + 1) e 128 v4 (m + 1) (xs ++ zz 64)) :
    ∃ g4 c4, v4 = .slice (some ⟨g4, 0, none⟩) (m + 1) c4 ∧ w4.cell? ⟨p, 1024, none⟩ = some (.slice lo m c) ∧ w4.frozen? ⟨p, 1024, none⟩ = false ∧
      Tab (w4.setCell ⟨p, 1024, none⟩ (.slice (some ⟨g4, 0, none⟩) (m + 1) c4)) p S (m + 1) (fun j => if j = m then fun _ => (0, 0) else L j) ∧ Upd w (w4.setCell ⟨p, 1024, none⟩ (.slice (some ⟨g4, 0, none⟩) (m + 1) c4)) p := by
  subst he
  obtain ⟨g4, c4, rfl⟩ : ∃ g4 c4, v4 = .slice (some ⟨g4, 0, none⟩) (m + 1) c4 := by
    rcases hown.2 with ⟨_, h0⟩ | ⟨g', cap', cur, h', _⟩
    · omega
    · exact ⟨g', cap', h'⟩
  have hlp : some p ≠ (Value.slice lo m c).ownBlock := by
    cases lo with
    | none => simp [Value.ownBlock]
    | some a => have := (how.lt a.block rfl).1; simp [Value.ownBlock]; omega
  have hb3 : Below w3.heap.size w3 (w3.alloc (.cells A 99)) := (Below.refl _ _).alloc (Nat.le_refl _) _
  have hEa := hE3.below hb3
  have hE4 := hEa.grown hgrow hlp
  have hcl3 := (hO3.rest 1024 (by omega)).trans hcl
  have hb : ∀ k, k < w3.heap.size → some k ≠ (Value.slice lo m c).ownBlock → w4.heap[k]? = w3.heap[k]? := fun k hk hne =>
    (hgrow.block k (Nat.lt_of_lt_of_le hk (grownBy_of_below hb3 none).size) hne).trans ((grownBy_of_below hb3 none).block k hk (by simp))
  have hcl4 := (World.cell?_of_block (a := ⟨p, 1024, none⟩) (hb p hE3.lt hlp)).trans hcl3
  have hpg : p + 1 ≤ g4 := (hown.lt g4 rfl).1
  have hs := grownBy_setCell w4 ⟨p, 1024, none⟩ (.slice (some ⟨g4, 0, none⟩) (m + 1) c4)
  have hlong := long_push how hen hown (fun i hi => (zz_at 64 i hi).1) (fun i hi => (zz_at 64 i hi).2)
  refine ⟨g4, c4, rfl, hcl4, hE4.free 1024, ⟨hE4.other (.inr (by omega)) _, some ⟨g4, 0, none⟩, c4, xs ++ zz 64, ?_, ?_, ?_⟩, ?_⟩
  · rw [World.cell?_setCell_same _ _ _ hcl4]
  · exact hown.kept hs (.inr (by simp [Value.ownBlock]; omega))
  · intro j hj
    exact ⟨g4, rfl, by omega, (hlong j hj).grown hs (by simp; omega)⟩
  · have ga := hO3.grown
    have gb := grownBy_of_below hb3 none
    refine ⟨?_, ?_, ?_, ?_, ?_⟩
    · exact hs.os.trans (hgrow.os.trans (gb.os.trans ga.os))
    · exact hs.tape.trans (hgrow.tape.trans (gb.tape.trans ga.tape))
    · exact hs.output.trans (hgrow.output.trans (gb.output.trans ga.output))
    · exact Nat.le_trans ga.size (Nat.le_trans gb.size (Nat.le_trans hgrow.size hs.size))
    · intro k hk hkp hkg
      have hne : some k ≠ (Value.slice lo m c).ownBlock := by
        rcases how.2 with ⟨h', _⟩ | ⟨g', cap', cur, h', _⟩
        · rw [h']; simp [Value.ownBlock]
        · rw [h'] at hcl ⊢
          have := hkg g' m cap' hcl
          simpa [Value.ownBlock] using this
      exact (hs.block k (Nat.lt_of_lt_of_le hk (Nat.le_trans ga.size (Nat.le_trans gb.size hgrow.size))) (by simpa using hkp)).trans ((hb k (Nat.lt_of_lt_of_le hk ga.size) hne).trans (ga.block k hk (by simpa using hkp)))

set_option maxRecDepth 100000 in
set_option maxHeartbeats 6400000 in
/-- link where there is none. -/
theorem link_new (p m f : Nat) (S : Nat → Nat × Nat) (L : Nat → Nat → Nat × Nat) (w : World) (hT : Tab w p S m L) (hf : f < 512) (hm : m ≤ 512) (h16 : ¬ (S f).1 = 16) (hl1 : (S f).1 ≤ 16) (hl2 : (S f).2 ≤ 512) :
    Calls Try.prog 69 #[.pointer (some ⟨p, 0, none⟩), .int .u64 f] w fun e w' => e = .returned (.int .i16 m) ∧ Tab w' p (fun i => if i = f then (16, m) else S i) (m + 1) (fun j => if j = m then fun _ => (0, 0) else L j) ∧ Upd w w' p := by
  obtain ⟨E0, hE0⟩ : ∃ e, (S f).1 = e := ⟨_, rfl⟩
  obtain ⟨E1, hE1⟩ : ∃ e, (S f).2 = e := ⟨_, rfl⟩
  obtain ⟨i0, hi, hz0, hz1, hz2⟩ := info_parts Try.info_arr
  have c0 := hT.short.at0 f hf
  have c1 := hT.short.at1 f hf
  rw [hE0] at c0 hl1 h16
  rw [hE1] at c1 hl2
  rw [Nat.zero_add] at c0 c1
  have hpw := hT.short.lt
  have b16 : ((E0 : Int) != 16) = true := by simp; omega
  obtain ⟨hsh, lo, c, xs, hcl, how, hen⟩ := hT
  obtain ⟨hE2, hO2⟩ := hsh.set hf 16 m
  rw [Nat.zero_add] at hE2 hO2
  have f0 := hsh.free (f * 2)
  have f1 := hsh.free (f * 2 + 1)
  have hcl2 := (hO2.rest 1024 (by omega)).trans hcl
  have how2 := how.kept hO2.grown (by
    cases lo with
    | none => exact .inl rfl
    | some a => exact .inr (by have := (how.lt a.block rfl).1; simp [Value.ownBlock]; omega))
  have hcg : ∀ k, w.cell? ⟨p, 1024, none⟩ = some k → k = .slice lo m c := fun k h => by rw [hcl] at h; exact (Option.some.inj h).symm
  have HE2 := hideH hE2
  have HO2 := hideH hO2
  have HOW := hideH how
  have HOW2 := hideH how2
  have HEN := hideH hen
  have HCL := hideH hcl
  have hmw := wrap_i16 m hm
  clear h16 hsh hE2 hO2 how hen how2 hcg hE0 hE1
  go_enter Try.func69, Try.ntmps69
  go_upto_region 2 with fail
  go_region
  have hw3 : ∃ w3 : World, w3 = ((w.setCell ⟨p, f * 2, none⟩ (.int .i8 16)).setCell ⟨p, f * 2 + 1, none⟩ (.int .i16 m)).drew := ⟨_, rfl⟩
  obtain ⟨w3, hw3⟩ := hw3
  have HO3 : Hid (Only w w3 p 0 1024) := by rw [hw3]; exact HO2.out.trans (Only.below HE2.out.lt ((Below.refl _ _).drew))
  have HE3 : Hid (Ents w3 p 0 512 (fun i => if i = f then (16, m) else S i)) := by rw [hw3]; exact HE2.out.below ((Below.refl _ _).drew)
  have HOW3 : Hid (w3.ownsRow (p + 1) 99 128 (.slice lo m c) m xs) := by rw [hw3]; exact HOW2.out
  have hcl3 : w3.cell? ⟨p, 1024, none⟩ = some (.slice lo m c) := by rw [hw3]; exact hcl2
  rw [← hw3]
  have hpw3 := HE3.out.lt
  have HN := hideH (fun (A : Array Value) (hA : A = Try.zeroCells99) (j : Nat) (u : Value) (h : Try.zeroCells99.toList[j]? = some u) => alloc_at w3 A 99 j u (by rw [hA]; exact h))
  have HOW4 := hideH (fun (A : Array Value) => ownsRow_up HOW3.out ((Below.refl _ _).alloc (Nat.le_refl _) (.cells A 99)))
  clear hw3 hcl2 HE2 HO2 HOW2 hcl c0 c1 f0 f1
  go_wp2_with (at_builtin; refine wpList_append_cells _ rfl _ _ 95 rfl (p + 1) 99 i0 (.agg Try.zeroCells99) 128 256 Try.underlying95 hi hz0 hz1 hz2 ?hzs ?hpos (.slice lo m c) m xs rfl (HOW4.out _) ⟨w3.heap.size, 0, none⟩ 1 1 Try.zeroCells99.toList rfl ?hlen (HN.out _ ?hA) ?hone ?h63 ?hby ?hbase ?hgo)
  case hzs => exact zeroArr_size
  case hpos => decide
  case hlen => rw [Array.length_toList]; exact zeroArr_size
  case hA => kernel_rfl
  case hone => exact fun u hu => List.all_eq_true.1 zeroArr_one u hu
  case h63 => unfold maxLen; omega
  case hby => omega
  case hbase => simp; omega
  intro v4 w4 hown hgrow
  rw [zeroArr_eq] at hown
  obtain ⟨g4, c4, rfl, hc4, hf4, hT5, hU5⟩ := link_fin rfl hpw HO3.out HE3.out HCL.out HOW.out HEN.out hgrow hown
  have a1 := hT5.short.at1 f hf
  rw [Nat.zero_add, if_pos rfl] at a1
  have HT5 := hideH hT5
  have HU5 := hideH hU5
  clear hown hgrow hT5 hU5 HN HOW3 HOW4 HE3 HO3 HOW HEN HCL hcl3 hpw3
  go_wp2_with fail
  go_ret
  exact ⟨rfl, HT5.out, HU5.out⟩

end Go.Proofs.Ytmfacacpoajpgac
