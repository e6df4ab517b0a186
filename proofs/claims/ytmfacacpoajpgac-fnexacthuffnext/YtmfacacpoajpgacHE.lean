import Derived.Test.YtmfacacpoajpgacHNT
namespace Go.Proofs.Ytmfacacpoajpgac
open Go.RowKit
attribute [local go_sem ↓] Go.wp_at_zero Go.wp_at_succ
set_option linter.unusedVariables false

theorem ownsRow_up {B : Nat} {e : TypeId} {k : Nat} {v : Value} {n : Nat} {xs : List Value} {w w' : World} (h : w.ownsRow B e k v n xs) (hb : Below w.heap.size w w') : w'.ownsRow B e k v n xs :=
  h.kept (grownBy_of_below hb none) (by cases hv : v.ownBlock <;> simp)
/-- The entries of an array from cell o of block g on. -/
structure Ents (w : World) (g o n : Nat) (F : Nat → Nat × Nat) : Prop where
  lt : g < w.heap.size
  at0 : ∀ i, i < n → w.cell? ⟨g, o + i * 2, none⟩ = some (.int .i8 ((F i).1 : Nat))
  at1 : ∀ i, i < n → w.cell? ⟨g, o + i * 2 + 1, none⟩ = some (.int .i16 ((F i).2 : Nat))
  free : ∀ o, w.frozen? ⟨g, o, none⟩ = false
/-- Of block g nothing but the cells from o on, m of them, has been written; of the others nothing. -/
structure Only (w w' : World) (g o m : Nat) : Prop where
  grown : w.grownBy w' (some g)
  rest : ∀ f, f < o ∨ o + m ≤ f → w'.cell? ⟨g, f, none⟩ = w.cell? ⟨g, f, none⟩
  free : ∀ f, w'.frozen? ⟨g, f, none⟩ = w.frozen? ⟨g, f, none⟩
  owns : ∀ B e k N cap xs, w.ownsRow B e k (.slice (some ⟨g, 0, none⟩) N cap) N xs → ∃ xs', w'.ownsRow B e k (.slice (some ⟨g, 0, none⟩) N cap) N xs'
theorem Only.refl (w : World) (g o m : Nat) : Only w w g o m := ⟨World.grownBy.refl _ _, fun _ _ => rfl, fun _ => rfl, fun _ _ _ _ _ xs h => ⟨xs, h⟩⟩
theorem Only.trans {w w' w'' : World} {g o m : Nat} (h : Only w w' g o m) (h' : Only w' w'' g o m) : Only w w'' g o m :=
  ⟨grownBy_trans h.grown h'.grown, fun f hf => (h'.rest f hf).trans (h.rest f hf), fun f => (h'.free f).trans (h.free f), fun B e k N cap xs ho => by
    obtain ⟨ys, h1⟩ := h.owns B e k N cap xs ho
    exact h'.owns B e k N cap ys h1⟩
theorem Only.below {w w' : World} {g o m : Nat} (hg : g < w.heap.size) (h : Below w.heap.size w w') : Only w w' g o m := by
  have e := (grownBy_of_below h none).block g hg (by simp)
  exact ⟨grownBy_of_below h _, fun f _ => World.cell?_of_block (w := w) e, fun f => World.frozen?_of_block (w := w) e, fun B e k N cap xs ho => ⟨xs, ownsRow_up ho h⟩⟩
theorem Ents.grown {w w' : World} {row : Option Nat} {g o n : Nat} {F : Nat → Nat × Nat} (h : Ents w g o n F) (hg : w.grownBy w' row) (hne : some g ≠ row) : Ents w' g o n F := by
  have e := hg.block g h.lt hne
  exact ⟨Nat.lt_of_lt_of_le h.lt hg.size, fun i hi => (World.cell?_of_block (w := w) e).trans (h.at0 i hi), fun i hi => (World.cell?_of_block (w := w) e).trans (h.at1 i hi), fun o => (World.frozen?_of_block (w := w) e).trans (h.free o)⟩
theorem Ents.below {w w' : World} {g o n : Nat} {F : Nat → Nat × Nat} (h : Ents w g o n F) (hb : Below w.heap.size w w') : Ents w' g o n F := h.grown (grownBy_of_below hb none) (by simp)
theorem Ents.congr {w : World} {g o n : Nat} {F G : Nat → Nat × Nat} (h : Ents w g o n F) (e : ∀ i, i < n → F i = G i) : Ents w g o n G :=
  ⟨h.lt, fun i hi => by rw [← e i hi]; exact h.at0 i hi, fun i hi => by rw [← e i hi]; exact h.at1 i hi, h.free⟩
theorem Ents.set {w : World} {g o n : Nat} {F : Nat → Nat × Nat} (h : Ents w g o n F) {k : Nat} (hk : k < n) (a b : Nat) :
    Ents ((w.setCell ⟨g, o + k * 2, none⟩ (.int .i8 a)).setCell ⟨g, o + k * 2 + 1, none⟩ (.int .i16 b)) g o n (fun i => if i = k then (a, b) else F i) ∧ Only w ((w.setCell ⟨g, o + k * 2, none⟩ (.int .i8 a)).setCell ⟨g, o + k * 2 + 1, none⟩ (.int .i16 b)) g o (n * 2) := by
  refine ⟨⟨by simpa using h.lt, ?_, ?_, fun o => by rw [World.frozen?_setCell, World.frozen?_setCell]; exact h.free o⟩,
    ⟨grownBy_trans (grownBy_setCell w ⟨g, o + k * 2, none⟩ _) (grownBy_setCell _ ⟨g, o + k * 2 + 1, none⟩ _), fun f hf => ?_, fun f => by rw [World.frozen?_setCell, World.frozen?_setCell], fun B e k' N cap xs ho => ⟨_, ((ho.stored _ _).1.stored _ _).1⟩⟩⟩
  · intro i hi
    rw [World.cell?_setCell_other _ _ _ _ (by first | (simp; done) | (simp; omega))]
    by_cases e : i = k
    · subst e
      rw [World.cell?_setCell_same _ _ _ (h.at0 i hi)]
      simp
    · rw [World.cell?_setCell_other _ _ _ _ (by first | (simp; done) | (simp; omega)), h.at0 i hi]
      simp [e]
  · intro i hi
    by_cases e : i = k
    · subst e
      have h1 : (w.setCell ⟨g, o + i * 2, none⟩ (.int .i8 a)).cell? ⟨g, o + i * 2 + 1, none⟩ = some (.int .i16 ((F i).2 : Nat)) := by
        rw [World.cell?_setCell_other _ _ _ _ (by first | (simp; done) | (simp; omega))]
        exact h.at1 i hi
      rw [World.cell?_setCell_same _ _ _ h1]
      simp
    · rw [World.cell?_setCell_other _ _ _ _ (by first | (simp; done) | (simp; omega)), World.cell?_setCell_other _ _ _ _ (by first | (simp; done) | (simp; omega)), h.at1 i hi]
      simp [e]
  · rw [World.cell?_setCell_other _ _ _ _ (by first | (simp; done) | (simp; omega)), World.cell?_setCell_other _ _ _ _ (by first | (simp; done) | (simp; omega))]

/-- A table: short's entries, and the row of long's arrays. -/
structure Tab (w : World) (p : Nat) (S : Nat → Nat × Nat) (m : Nat) (L : Nat → Nat → Nat × Nat) : Prop where
  short : Ents w p 0 512 S
  long : ∃ lo c xs, w.cell? ⟨p, 1024, none⟩ = some (.slice lo m c) ∧ w.ownsRow (p + 1) 99 128 (.slice lo m c) m xs ∧ ∀ j, j < m → ∃ g, lo = some ⟨g, 0, none⟩ ∧ p < g ∧ Ents w g (j * 128) 64 (L j)
theorem Tab.below {w w' : World} {p m : Nat} {S : Nat → Nat × Nat} {L : Nat → Nat → Nat × Nat} (h : Tab w p S m L) (hb : Below w.heap.size w w') : Tab w' p S m L := by
  obtain ⟨h1, lo, c, xs, h2, h3, h4⟩ := h
  refine ⟨h1.below hb, lo, c, xs, ?_, ownsRow_up h3 hb, fun j hj => ?_⟩
  · exact (World.cell?_of_block (w := w) ((grownBy_of_below hb none).block p h1.lt (by simp))).trans h2
  · obtain ⟨g, e, h5, h6⟩ := h4 j hj
    exact ⟨g, e, h5, h6.below hb⟩
/-- What a look at the bits x finds. -/
def look (S : Nat → Nat × Nat) (L : Nat → Nat → Nat × Nat) (x : Nat) : Nat × Nat := if (S (x % 512)).1 = 16 then L (S (x % 512)).2 (x / 512 % 64) else S (x % 512)

set_option maxRecDepth 100000 in
set_option maxHeartbeats 6400000 in
theorem spread_any (g o n c l a b S : Nat) (F : Nat → Nat × Nat) (w : World) (hE : Ents w g o n F) (hn : n ≤ 512) (hl : l ≤ 9) (hS : 2 ^ l = S) (hc : c < S) :
    Calls Try.prog 68 #[.slice (some ⟨g, o, none⟩) n n, .int .u64 c, .int .i64 l, .agg #[.int .i8 a, .int .i16 b]] w fun e w' => e = .returned (.tuple #[]) ∧ Ents w' g o n (fun i => if i % S = c then (a, b) else F i) ∧ Only w w' g o (n * 2) := by
  have hb0 : Below w.heap.size w (w.alloc (.cells #[.int .i8 a, .int .i16 b] 93)) := (Below.refl _ _).alloc (Nat.le_refl _) _
  have hS1 : S ≤ 512 := hS ▸ Nat.le_trans (Nat.pow_le_pow_right (by decide) hl) (by decide)
  have hS0 : 0 < S := by omega
  have HE0 := hideH (hE.below hb0)
  have HO0 := hideH (Only.below (o := o) (m := n * 2) hE.lt hb0)
  have hgw := hE.lt
  have p0 : (w.alloc (.cells #[.int .i8 a, .int .i16 b] 93)).cell? ⟨w.heap.size, 0, none⟩ = some (.int .i8 a) := by simp [go_sem]
  have p1 : (w.alloc (.cells #[.int .i8 a, .int .i16 b] 93)).cell? ⟨w.heap.size, 1, none⟩ = some (.int .i16 b) := by simp [go_sem]
  have HS := hideH hS
  clear hE hb0 hS
  go_enter Try.func68, Try.ntmps68
  go_wp2_with fail
  go_loopw [8] (fun i wr => ∃ p : Nat, p < n + S ∧ i = .int .u64 p ∧ Hid (p % S = c) ∧ Ents wr g o n (fun i => if i < p ∧ i % S = c then (a, b) else F i) ∧ Only w wr g o (n * 2) ∧ wr.cell? ⟨w.heap.size, 0, none⟩ = some (.int .i8 a) ∧ wr.cell? ⟨w.heap.size, 1, none⟩ = some (.int .i16 b)) (fun i _ => n + S - (intOf i).toNat)
  case atStart =>
    refine ⟨c, by omega, rfl, (Nat.mod_eq_of_lt hc), HE0.out.congr (fun i _ => ?_), HO0.out, p0, p1⟩
    rw [if_neg]
    rintro ⟨h1, h2⟩
    rw [Nat.mod_eq_of_lt (by omega)] at h2
    omega
  case round =>
    clear HE0 HO0 p0 p1
    obtain ⟨p, hp, rfl, HM, hE, hO, q0, q1⟩ := hrel
    by_cases hlt : p < n
    · have c0 := hE.at0 p hlt
      have c1 := hE.at1 p hlt
      have f0 := hE.free (o + p * 2)
      have f1 := hE.free (o + p * 2 + 1)
      obtain ⟨hE2, hO2⟩ := hE.set hlt a b
      have hE3 := hE2.congr (G := fun i => if i < p + S ∧ i % S = c then (a, b) else F i) (fun i _ => by
        by_cases e : i = p
        · subst e
          rw [if_pos rfl, if_pos ⟨by omega, HM.out⟩]
        · rw [if_neg e]
          by_cases h1 : i < p ∧ i % S = c
          · rw [if_pos h1, if_pos ⟨by omega, h1.2⟩]
          · rw [if_neg h1, if_neg]
            rintro ⟨h2, h3⟩
            apply h1
            refine ⟨?_, h3⟩
            by_cases h4 : i < p
            · exact h4
            · exfalso
              have h5 : (i - p) % S = 0 := by
                have h6 : i % S = p % S := by rw [h3, HM.out]
                exact Nat.sub_mod_eq_zero_of_mod_eq h6
              rw [Nat.mod_eq_of_lt (by omega)] at h5
              omega)
      have hO3 := hO.trans hO2
      have r0 := (World.cell?_of_block (w := wr) (hO2.grown.block w.heap.size (World.block_lt_of_cell? wr _ q0) (by simp; omega)) (a := ⟨w.heap.size, 0, none⟩)).trans q0
      have r1 := (World.cell?_of_block (w := wr) (hO2.grown.block w.heap.size (World.block_lt_of_cell? wr _ q0) (by simp; omega)) (a := ⟨w.heap.size, 1, none⟩)).trans q1
      have HM2 : Hid ((p + S) % S = c) := by show _ = _; rw [Nat.add_mod_right]; exact HM.out
      have HE3 := hideH hE3
      have HO3 := hideH hO3
      have HR0 := hideH r0
      have HR1 := hideH r1
      obtain ⟨u0, hu0⟩ : ∃ u, wr.cell? ⟨g, o + p * 2, none⟩ = some u := ⟨_, c0⟩
      obtain ⟨u1, hu1⟩ : ∃ u, wr.cell? ⟨g, o + p * 2 + 1, none⟩ = some u := ⟨_, c1⟩
      have hw : IntKind.u64.wrap ((p : Int) + IntKind.u64.wrap (2 ^ l)) = ((p + S : Nat) : Int) := by
        have h1 : ((2 : Int) ^ l) = (S : Int) := by rw [← HS.out]; exact (Int.natCast_pow 2 l).symm
        rw [h1, IntKind.wrap_u64, IntKind.wrap_u64]
        omega
      clear c0 c1 hE hE2 hE3 hO hO2 hO3 r0 r1
      go_wp2_with fail
      exact ⟨⟨p + S, by omega, by simp, HM2, HE3.out, HO3.out, HR0.out, HR1.out⟩, by simp [intOf]; omega⟩
    · have HF : Hid (Ents wr g o n (fun i => if i % S = c then (a, b) else F i)) := hE.congr (fun i hi => by
        by_cases h : i % S = c
        · rw [if_pos ⟨by omega, h⟩, if_pos h]
        · rw [if_neg (fun h1 => h h1.2), if_neg h])
      have HO := hideH hO
      clear hE hO
      go_wp2_with fail
      go_end0
      exact ⟨rfl, HF.out, HO.out⟩

end Go.Proofs.Ytmfacacpoajpgac
