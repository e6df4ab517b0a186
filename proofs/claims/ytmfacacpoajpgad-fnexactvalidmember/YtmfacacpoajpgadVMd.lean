import Derived.Test.YtmfacacpoajpgadVMc
namespace Go.Proofs.Ytmfacacpoajpgad
open Go.RowKit
attribute [local go_sem ↓] Go.wp_at_zero Go.wp_at_succ
set_option linter.unusedVariables false

/-- It may be written. -/
def Mfr (w : World) (p : Nat) : Prop := ∀ o, w.frozen? ⟨p, o, none⟩ = false
theorem Mfr.grown {w w' : World} {row : Option Nat} {p : Nat} (h : Mfr w p) (hp : p < w.heap.size) (hg : w.grownBy w' row) (hne : some p ≠ row) : Mfr w' p := fun o => (World.frozen?_of_block (w := w) (hg.block p hp hne)).trans (h o)
theorem Mfr.below {w w' : World} {p : Nat} (h : Mfr w p) (hp : p < w.heap.size) (hb : Below w.heap.size w w') : Mfr w' p := h.grown hp (grownBy_of_below hb none) (by simp)
theorem Mfr.set {w : World} {p : Nat} (h : Mfr w p) (a : Addr) (v : Value) : Mfr (w.setCell a v) p := fun o => by rw [World.frozen?_setCell]; exact h o
theorem mfr_new (w : World) (cs : Array Value) (t : TypeId) : Mfr (w.alloc (.cells cs t)) w.heap.size := fun o => by simp [go_sem]
theorem Mb.set4 {w : World} {p : Nat} {f mt xf os sz : Int} {ve vn vc : Value} (h : Mb w p f mt xf os sz ve vn vc) (v : Value) : Mb (w.setCell ⟨p, 4, none⟩ v) p f mt xf os sz v vn vc := by
  obtain ⟨h0, h1, h2, h3, h4, h5, h6, h7⟩ := h
  have k : ∀ o, o ≠ 4 → (w.setCell ⟨p, 4, none⟩ v).cell? ⟨p, o, none⟩ = w.cell? ⟨p, o, none⟩ := fun o ho => World.cell?_setCell_other _ _ _ _ (by first | (simp; done) | (simp; omega))
  exact ⟨(k 0 (by decide)).trans h0, (k 1 (by decide)).trans h1, (k 2 (by decide)).trans h2, (k 3 (by decide)).trans h3, World.cell?_setCell_same _ _ _ h4, (k 5 (by decide)).trans h5, (k 6 (by decide)).trans h6, (k 7 (by decide)).trans h7⟩
theorem Mb.set5 {w : World} {p : Nat} {f mt xf os sz : Int} {ve vn vc : Value} (h : Mb w p f mt xf os sz ve vn vc) (v : Value) : Mb (w.setCell ⟨p, 5, none⟩ v) p f mt xf os sz ve v vc := by
  obtain ⟨h0, h1, h2, h3, h4, h5, h6, h7⟩ := h
  have k : ∀ o, o ≠ 5 → (w.setCell ⟨p, 5, none⟩ v).cell? ⟨p, o, none⟩ = w.cell? ⟨p, o, none⟩ := fun o ho => World.cell?_setCell_other _ _ _ _ (by first | (simp; done) | (simp; omega))
  exact ⟨(k 0 (by decide)).trans h0, (k 1 (by decide)).trans h1, (k 2 (by decide)).trans h2, (k 3 (by decide)).trans h3, (k 4 (by decide)).trans h4, World.cell?_setCell_same _ _ _ h5, (k 6 (by decide)).trans h6, (k 7 (by decide)).trans h7⟩
theorem Mb.set6 {w : World} {p : Nat} {f mt xf os sz : Int} {ve vn vc : Value} (h : Mb w p f mt xf os sz ve vn vc) (v : Value) : Mb (w.setCell ⟨p, 6, none⟩ v) p f mt xf os sz ve vn v := by
  obtain ⟨h0, h1, h2, h3, h4, h5, h6, h7⟩ := h
  have k : ∀ o, o ≠ 6 → (w.setCell ⟨p, 6, none⟩ v).cell? ⟨p, o, none⟩ = w.cell? ⟨p, o, none⟩ := fun o ho => World.cell?_setCell_other _ _ _ _ (by first | (simp; done) | (simp; omega))
  exact ⟨(k 0 (by decide)).trans h0, (k 1 (by decide)).trans h1, (k 2 (by decide)).trans h2, (k 3 (by decide)).trans h3, (k 4 (by decide)).trans h4, (k 5 (by decide)).trans h5, World.cell?_setCell_same _ _ _ h6, (k 7 (by decide)).trans h7⟩
theorem Mb.set7 {w : World} {p : Nat} {f mt xf os sz : Int} {ve vn vc : Value} (h : Mb w p f mt xf os sz ve vn vc) (x : Int) : Mb (w.setCell ⟨p, 7, none⟩ (.int .i64 x)) p f mt xf os x ve vn vc := by
  obtain ⟨h0, h1, h2, h3, h4, h5, h6, h7⟩ := h
  have k : ∀ o, o ≠ 7 → (w.setCell ⟨p, 7, none⟩ (.int .i64 x)).cell? ⟨p, o, none⟩ = w.cell? ⟨p, o, none⟩ := fun o ho => World.cell?_setCell_other _ _ _ _ (by first | (simp; done) | (simp; omega))
  exact ⟨(k 0 (by decide)).trans h0, (k 1 (by decide)).trans h1, (k 2 (by decide)).trans h2, (k 3 (by decide)).trans h3, (k 4 (by decide)).trans h4, (k 5 (by decide)).trans h5, (k 6 (by decide)).trans h6, World.cell?_setCell_same _ _ _ h7⟩
theorem cell_set_same {w : World} {a : Addr} {u : Value} (v : Value) (h : w.cell? a = some u) : (w.setCell a v).cell? a = some v := World.cell?_setCell_same _ _ _ h
theorem cell_set_far {w : World} {p i j : Nat} {u : Option Value} (v : Value) (hij : i ≠ j) (h : w.cell? ⟨p, j, none⟩ = u) : (w.setCell ⟨p, i, none⟩ v).cell? ⟨p, j, none⟩ = u := by
  rw [World.cell?_setCell_other _ _ _ _ (by first | (simp; done) | (simp; omega))]; exact h
/-- All eight cells laid. -/
theorem mb_set8 {w : World} {p : Nat} {f0 mt0 xf0 os0 sz0 : Int} {ve0 vn0 vc0 : Value} (h : Mb w p f0 mt0 xf0 os0 sz0 ve0 vn0 vc0) (f mt xf os sz : Int) (ve vn vc : Value) :
    Mb ((((((((w.setCell ⟨p, 0, none⟩ (.int .i64 f)).setCell ⟨p, 1, none⟩ (.int .i64 mt)).setCell ⟨p, 2, none⟩ (.int .i64 xf)).setCell ⟨p, 3, none⟩ (.int .i64 os)).setCell ⟨p, 4, none⟩ ve).setCell ⟨p, 5, none⟩ vn).setCell ⟨p, 6, none⟩ vc).setCell ⟨p, 7, none⟩ (.int .i64 sz)) p f mt xf os sz ve vn vc ∧ w.grownBy ((((((((w.setCell ⟨p, 0, none⟩ (.int .i64 f)).setCell ⟨p, 1, none⟩ (.int .i64 mt)).setCell ⟨p, 2, none⟩ (.int .i64 xf)).setCell ⟨p, 3, none⟩ (.int .i64 os)).setCell ⟨p, 4, none⟩ ve).setCell ⟨p, 5, none⟩ vn).setCell ⟨p, 6, none⟩ vc).setCell ⟨p, 7, none⟩ (.int .i64 sz)) (some p) := by
  obtain ⟨h0, h1, h2, h3, h4, h5, h6, h7⟩ := h
  refine ⟨⟨?_, ?_, ?_, ?_, ?_, ?_, ?_, ?_⟩, ?_⟩
  · exact (cell_set_far _ (by decide) (cell_set_far _ (by decide) (cell_set_far _ (by decide) (cell_set_far _ (by decide) (cell_set_far _ (by decide) (cell_set_far _ (by decide) (cell_set_far _ (by decide) (cell_set_same _ h0))))))))
  · exact (cell_set_far _ (by decide) (cell_set_far _ (by decide) (cell_set_far _ (by decide) (cell_set_far _ (by decide) (cell_set_far _ (by decide) (cell_set_far _ (by decide) (cell_set_same _ (cell_set_far _ (by decide) h1))))))))
  · exact (cell_set_far _ (by decide) (cell_set_far _ (by decide) (cell_set_far _ (by decide) (cell_set_far _ (by decide) (cell_set_far _ (by decide) (cell_set_same _ (cell_set_far _ (by decide) (cell_set_far _ (by decide) h2))))))))
  · exact (cell_set_far _ (by decide) (cell_set_far _ (by decide) (cell_set_far _ (by decide) (cell_set_far _ (by decide) (cell_set_same _ (cell_set_far _ (by decide) (cell_set_far _ (by decide) (cell_set_far _ (by decide) h3))))))))
  · exact (cell_set_far _ (by decide) (cell_set_far _ (by decide) (cell_set_far _ (by decide) (cell_set_same _ (cell_set_far _ (by decide) (cell_set_far _ (by decide) (cell_set_far _ (by decide) (cell_set_far _ (by decide) h4))))))))
  · exact (cell_set_far _ (by decide) (cell_set_far _ (by decide) (cell_set_same _ (cell_set_far _ (by decide) (cell_set_far _ (by decide) (cell_set_far _ (by decide) (cell_set_far _ (by decide) (cell_set_far _ (by decide) h5))))))))
  · exact (cell_set_far _ (by decide) (cell_set_same _ (cell_set_far _ (by decide) (cell_set_far _ (by decide) (cell_set_far _ (by decide) (cell_set_far _ (by decide) (cell_set_far _ (by decide) (cell_set_far _ (by decide) h6))))))))
  · exact (cell_set_same _ (cell_set_far _ (by decide) (cell_set_far _ (by decide) (cell_set_far _ (by decide) (cell_set_far _ (by decide) (cell_set_far _ (by decide) (cell_set_far _ (by decide) (cell_set_far _ (by decide) h7))))))))
  · exact grownBy_trans (grownBy_trans (grownBy_trans (grownBy_trans (grownBy_trans (grownBy_trans (grownBy_trans (grownBy_setCell w ⟨p, 0, none⟩ _) (grownBy_setCell _ ⟨p, 1, none⟩ _)) (grownBy_setCell _ ⟨p, 2, none⟩ _)) (grownBy_setCell _ ⟨p, 3, none⟩ _)) (grownBy_setCell _ ⟨p, 4, none⟩ _)) (grownBy_setCell _ ⟨p, 5, none⟩ _)) (grownBy_setCell _ ⟨p, 6, none⟩ _)) (grownBy_setCell _ ⟨p, 7, none⟩ _)
theorem szb_any (ao : Option Addr) (n cap : Nat) (left : Int) (w : World) (hn : n ≤ 9223372036854775807) (h0 : 0 ≤ left) (h1 : left ≤ 1048576) :
    Calls Try.prog 19 #[.slice ao n cap, .int .i64 left] w fun e w' => e = .returned (.int .i64 (if left < (n : Int) then -1 else left - n)) ∧ w' = w := by
  by_cases h : left < (n : Int)
  · rw [if_pos h]
    go_enter Try.func19, Try.ntmps19
    go_wp2
    go_ret
    exact ⟨rfl, rfl⟩
  · rw [if_neg h]
    go_enter Try.func19, Try.ntmps19
    go_wp2
    go_ret
    exact ⟨rfl, rfl⟩
set_option maxHeartbeats 1600000 in
theorem szMember_any (f mt xf os sz : Int) (ae an ac : Option Addr) (ne ce nn cn nc cc : Nat) (w : World) (le : ne ≤ 9223372036854775807) (ln : nn ≤ 9223372036854775807) (lc : nc ≤ 9223372036854775807) :
    Calls Try.prog 14 #[.agg #[.int .i64 f, .int .i64 mt, .int .i64 xf, .int .i64 os, .slice ae ne ce, .slice an nn cn, .slice ac nc cc, .int .i64 sz], .int .i64 1048576] w fun e w' =>
      (∃ r : Int, e = .returned (.int .i64 r) ∧ (r < 0 → r = -1 ∧ 1048576 < ne + nn + nc) ∧ (0 ≤ r → ne + nn + nc ≤ 1048576)) ∧ Below w.heap.size w w' := by
  by_cases h1 : (1048576 : Int) < (ne : Int)
  · go_enter Try.func14, Try.ntmps14
    go_wp2_with fail
    refine (szb_any ae ne ce 1048576 _ le (by decide) (by decide)).mono ?_
    rintro e w1 ⟨rfl, rfl⟩
    rw [if_pos h1]
    go_wp2_with fail
    go_ret
    exact ⟨⟨-1, rfl, fun _ => ⟨rfl, by omega⟩, fun h => by omega⟩, (Below.refl _ _).alloc (Nat.le_refl _) _⟩
  · obtain ⟨r1, hr1⟩ : ∃ r1 : Int, 1048576 - (ne : Int) = r1 := ⟨_, rfl⟩
    have a1 : 0 ≤ r1 := by omega
    have a2 : r1 ≤ 1048576 := by omega
    by_cases h2 : r1 < (nn : Int)
    · go_enter Try.func14, Try.ntmps14
      go_wp2_with fail
      refine (szb_any ae ne ce 1048576 _ le (by decide) (by decide)).mono ?_
      rintro e w1 ⟨rfl, rfl⟩
      rw [if_neg (by omega), hr1]
      have HR1 := hideV hr1
      clear hr1
      go_wp2_with fail
      refine (szb_any an nn cn r1 _ ln a1 a2).mono ?_
      rintro e w1 ⟨rfl, rfl⟩
      rw [if_pos h2]
      go_wp2_with fail
      go_ret
      exact ⟨⟨-1, rfl, fun _ => ⟨rfl, by have := HR1.out; omega⟩, fun h => by omega⟩, (Below.refl _ _).alloc (Nat.le_refl _) _⟩
    · obtain ⟨r2, hr2⟩ : ∃ r2 : Int, r1 - (nn : Int) = r2 := ⟨_, rfl⟩
      have b1 : 0 ≤ r2 := by omega
      have b2 : r2 ≤ 1048576 := by omega
      by_cases h3 : r2 < (nc : Int)
      · go_enter Try.func14, Try.ntmps14
        go_wp2_with fail
        refine (szb_any ae ne ce 1048576 _ le (by decide) (by decide)).mono ?_
        rintro e w1 ⟨rfl, rfl⟩
        rw [if_neg (by omega), hr1]
        have HR1 := hideV hr1
        clear hr1
        go_wp2_with fail
        refine (szb_any an nn cn r1 _ ln a1 a2).mono ?_
        rintro e w1 ⟨rfl, rfl⟩
        rw [if_neg (by omega), hr2]
        have HR2 := hideV hr2
        clear hr2
        go_wp2_with fail
        refine (szb_any ac nc cc r2 _ lc b1 b2).mono ?_
        rintro e w1 ⟨rfl, rfl⟩
        rw [if_pos h3]
        go_wp2_with fail
        go_ret
        exact ⟨⟨-1, rfl, fun _ => ⟨rfl, by have := HR1.out; have := HR2.out; omega⟩, fun h => by omega⟩, (Below.refl _ _).alloc (Nat.le_refl _) _⟩
      · obtain ⟨r3, hr3⟩ : ∃ r3 : Int, r2 - (nc : Int) = r3 := ⟨_, rfl⟩
        have d1 : 0 ≤ r3 := by omega
        have HT : Hid (ne + nn + nc ≤ 1048576) := by show _ ≤ _; omega
        go_enter Try.func14, Try.ntmps14
        go_wp2_with fail
        refine (szb_any ae ne ce 1048576 _ le (by decide) (by decide)).mono ?_
        rintro e w1 ⟨rfl, rfl⟩
        rw [if_neg (by omega), hr1]
        clear hr1
        go_wp2_with fail
        refine (szb_any an nn cn r1 _ ln a1 a2).mono ?_
        rintro e w1 ⟨rfl, rfl⟩
        rw [if_neg (by omega), hr2]
        clear hr2
        go_wp2_with fail
        refine (szb_any ac nc cc r2 _ lc b1 b2).mono ?_
        rintro e w1 ⟨rfl, rfl⟩
        rw [if_neg (by omega), hr3]
        clear hr3
        go_wp2_with fail
        go_ret
        exact ⟨⟨r3, rfl, fun h => by omega, fun _ => HT.out⟩, (Below.refl _ _).alloc (Nat.le_refl _) _⟩
set_option maxRecDepth 100000 in
set_option maxHeartbeats 3200000 in
theorem eqMember_same (f mt xf os sz : Int) (ae an ac be bn bc : Option Addr) (ce cn cc de dn dc : Nat) (ze zn zc : List Int) (w : World) (h1 : Row w ae ze) (h2 : Row w an zn) (h3 : Row w ac zc) (k1 : Row w be ze) (k2 : Row w bn zn) (k3 : Row w bc zc) (le : ze.length ≤ 1048576) (ln : zn.length ≤ 1048576) (lc : zc.length ≤ 1048576) :
    Calls Try.prog 18 #[.agg #[.int .i64 f, .int .i64 mt, .int .i64 xf, .int .i64 os, .slice ae ze.length ce, .slice an zn.length cn, .slice ac zc.length cc, .int .i64 sz], .agg #[.int .i64 f, .int .i64 mt, .int .i64 xf, .int .i64 os, .slice be ze.length de, .slice bn zn.length dn, .slice bc zc.length dc, .int .i64 sz]] w fun e w' => e = .returned (.bool true) ∧ Below w.heap.size w w' := by
  have A0 := hideV ((mb_new w f mt xf os sz (.slice ae ze.length ce) (.slice an zn.length cn) (.slice ac zc.length cc) 40).below ((Below.refl _ _).alloc (Nat.le_refl _) (.cells #[.int .i64 f, .int .i64 mt, .int .i64 xf, .int .i64 os, .slice be ze.length de, .slice bn zn.length dn, .slice bc zc.length dc, .int .i64 sz] 40)))
  have B0 := hideV (mb_new (w.alloc (.cells #[.int .i64 f, .int .i64 mt, .int .i64 xf, .int .i64 os, .slice ae ze.length ce, .slice an zn.length cn, .slice ac zc.length cc, .int .i64 sz] 40)) f mt xf os sz (.slice be ze.length de) (.slice bn zn.length dn) (.slice bc zc.length dc) 40)
  have L0 : Hid (Below w.heap.size w ((w.alloc (.cells #[.int .i64 f, .int .i64 mt, .int .i64 xf, .int .i64 os, .slice ae ze.length ce, .slice an zn.length cn, .slice ac zc.length cc, .int .i64 sz] 40)).alloc (.cells #[.int .i64 f, .int .i64 mt, .int .i64 xf, .int .i64 os, .slice be ze.length de, .slice bn zn.length dn, .slice bc zc.length dc, .int .i64 sz] 40))) := ((Below.refl _ _).alloc (Nat.le_refl _) _).alloc (by simp) _
  have HR := hideV (And.intro h1 (And.intro h2 (And.intro h3 (And.intro k1 (And.intro k2 k3)))))
  clear h1 h2 h3 k1 k2 k3
  have e0 : (f != f) = false := by simp
  have e1 : (mt != mt) = false := by simp
  have e2 : (xf != xf) = false := by simp
  have e3 : (os != os) = false := by simp
  have e4 : (sz != sz) = false := by simp
  go_enter Try.func18, Try.ntmps18
  go_wp2_with fail
  simp only [World.size_alloc] at B0
  generalize (w.alloc (.cells #[.int .i64 f, .int .i64 mt, .int .i64 xf, .int .i64 os, .slice ae ze.length ce, .slice an zn.length cn, .slice ac zc.length cc, .int .i64 sz] 40)).alloc (.cells #[.int .i64 f, .int .i64 mt, .int .i64 xf, .int .i64 os, .slice be ze.length de, .slice bn zn.length dn, .slice bc zc.length dc, .int .i64 sz] 40) = W at *
  refine (eqByteS_any ae be ce de ze ze _ (HR.out.1.below L0.out) (HR.out.2.2.2.1.below L0.out) (by omega)).mono ?_
  rintro e w1 ⟨rfl, q1, rfl⟩
  rw [decide_eq_true rfl]
  obtain ⟨c0, c1, c2, c3, c4, c5, c6, c7⟩ := A0.out
  obtain ⟨d0, d1, d2, d3, d4, d5, d6, d7⟩ := B0.out
  have z1 := A0.out.lt
  have z2 := B0.out.lt
  go_wp2_with fail
  refine (eqByteS_any an bn cn dn zn zn _ (HR.out.2.1.below (L0.out.trans (below_drewN' _ _ _))) (HR.out.2.2.2.2.1.below (L0.out.trans (below_drewN' _ _ _))) (by omega)).mono ?_
  rintro e w1 ⟨rfl, q2, rfl⟩
  rw [decide_eq_true rfl]
  go_wp2_with fail
  refine (eqByteS_any ac bc cc dc zc zc _ (HR.out.2.2.1.below (L0.out.trans (below_drewN' _ _ _))) (HR.out.2.2.2.2.2.below (L0.out.trans (below_drewN' _ _ _))) (by omega)).mono ?_
  rintro e w1 ⟨rfl, q3, rfl⟩
  rw [decide_eq_true rfl]
  go_wp2_with fail
  go_ret
  exact ⟨rfl, L0.out.trans (below_drewN' _ _ _)⟩
set_option maxRecDepth 100000 in
set_option maxHeartbeats 6400000 in
theorem toMember_any (f mt xf os sz : Int) (ae an ac : Option Addr) (ce cn cc : Nat) (ze zn zc : List Int) (w : World) (he : Row w ae ze) (hn : Row w an zn) (hc : Row w ac zc) (le : ze.length ≤ 1048576) (ln : zn.length ≤ 1048576) (lc : zc.length ≤ 1048576) :
    Calls Try.prog 16 #[.agg #[.int .i64 f, .int .i64 mt, .int .i64 xf, .int .i64 os, .slice ae ze.length ce, .slice an zn.length cn, .slice ac zc.length cc, .int .i64 sz]] w fun e w' => ∃ ge gn gc, e = .returned (.agg #[.int .i64 f, .int .i64 mt, .int .i64 xf, .int .i64 os, .slice (some ⟨ge, 0, none⟩) ze.length ze.length, .slice (some ⟨gn, 0, none⟩) zn.length zn.length, .slice (some ⟨gc, 0, none⟩) zc.length zc.length, .int .i64 sz]) ∧ Row w' (some ⟨ge, 0, none⟩) ze ∧ Row w' (some ⟨gn, 0, none⟩) zn ∧ Row w' (some ⟨gc, 0, none⟩) zc ∧ Below w.heap.size w w' := by
  have HR := hideV (And.intro he (And.intro hn hc))
  clear he hn hc
  have eW : ∃ W, ((w.alloc (.cells #[.int .i64 f, .int .i64 mt, .int .i64 xf, .int .i64 os, .slice ae ze.length ce, .slice an zn.length cn, .slice ac zc.length cc, .int .i64 sz] 37)).alloc (.cells #[.int .i64 0, .int .i64 0, .int .i64 0, .int .i64 0, .slice none 0 0, .slice none 0 0, .slice none 0 0, .int .i64 0] 40)).alloc (.cells #[.int .i64 f, .int .i64 mt, .int .i64 xf, .int .i64 os, .slice none 0 0, .slice none 0 0, .slice none 0 0, .int .i64 0] 40) = W := ⟨_, rfl⟩
  obtain ⟨W, hW⟩ := eW
  have L0 : Hid (Below w.heap.size w W) := by rw [← hW]; exact (((Below.refl _ _).alloc (Nat.le_refl _) _).alloc (by simp) _).alloc (by simp; omega) _
  have X0 : Hid (Mb W w.heap.size f mt xf os sz (.slice ae ze.length ce) (.slice an zn.length cn) (.slice ac zc.length cc)) := by
    rw [← hW]
    exact ((mb_new w f mt xf os sz _ _ _ 37).below ((Below.refl _ _).alloc (Nat.le_refl _) _)).below ((Below.refl _ _).alloc (Nat.le_refl _) _)
  have R0 : Hid (Mb W (w.heap.size + 1) 0 0 0 0 0 (.slice none 0 0) (.slice none 0 0) (.slice none 0 0)) := by
    rw [← hW]
    have h := (mb_new (w.alloc (.cells #[.int .i64 f, .int .i64 mt, .int .i64 xf, .int .i64 os, .slice ae ze.length ce, .slice an zn.length cn, .slice ac zc.length cc, .int .i64 sz] 37)) 0 0 0 0 0 (.slice none 0 0) (.slice none 0 0) (.slice none 0 0) 40).below ((Below.refl _ _).alloc (Nat.le_refl _) (.cells #[.int .i64 f, .int .i64 mt, .int .i64 xf, .int .i64 os, .slice none 0 0, .slice none 0 0, .slice none 0 0, .int .i64 0] 40))
    rw [World.size_alloc] at h
    exact h
  have O0 : Hid (Mb W (w.heap.size + 1 + 1) f mt xf os 0 (.slice none 0 0) (.slice none 0 0) (.slice none 0 0)) := by
    rw [← hW]
    have h := mb_new ((w.alloc (.cells #[.int .i64 f, .int .i64 mt, .int .i64 xf, .int .i64 os, .slice ae ze.length ce, .slice an zn.length cn, .slice ac zc.length cc, .int .i64 sz] 37)).alloc (.cells #[.int .i64 0, .int .i64 0, .int .i64 0, .int .i64 0, .slice none 0 0, .slice none 0 0, .slice none 0 0, .int .i64 0] 40)) f mt xf os 0 (.slice none 0 0) (.slice none 0 0) (.slice none 0 0) 40
    rw [World.size_alloc, World.size_alloc] at h
    exact h
  have FR0 : Hid (Mfr W (w.heap.size + 1)) := by
    rw [← hW]
    have h := (mfr_new (w.alloc (.cells #[.int .i64 f, .int .i64 mt, .int .i64 xf, .int .i64 os, .slice ae ze.length ce, .slice an zn.length cn, .slice ac zc.length cc, .int .i64 sz] 37)) #[.int .i64 0, .int .i64 0, .int .i64 0, .int .i64 0, .slice none 0 0, .slice none 0 0, .slice none 0 0, .int .i64 0] 40).below (by simp) ((Below.refl _ _).alloc (Nat.le_refl _) (.cells #[.int .i64 f, .int .i64 mt, .int .i64 xf, .int .i64 os, .slice none 0 0, .slice none 0 0, .slice none 0 0, .int .i64 0] 40))
    rw [World.size_alloc] at h
    exact h
  have FO0 : Hid (Mfr W (w.heap.size + 1 + 1)) := by
    rw [← hW]
    have h := mfr_new ((w.alloc (.cells #[.int .i64 f, .int .i64 mt, .int .i64 xf, .int .i64 os, .slice ae ze.length ce, .slice an zn.length cn, .slice ac zc.length cc, .int .i64 sz] 37)).alloc (.cells #[.int .i64 0, .int .i64 0, .int .i64 0, .int .i64 0, .slice none 0 0, .slice none 0 0, .slice none 0 0, .int .i64 0] 40)) #[.int .i64 f, .int .i64 mt, .int .i64 xf, .int .i64 os, .slice none 0 0, .slice none 0 0, .slice none 0 0, .int .i64 0] 40
    rw [World.size_alloc, World.size_alloc] at h
    exact h
  have HWs : Hid (W.heap.size = w.heap.size + 1 + 1 + 1) := by rw [← hW]; simp [Hid]
  have HW := hideV hW
  clear hW
  go_enter Try.func16, Try.ntmps16
  go_wp2_with fail
  rw [HW.out]
  refine (toByteS_any ae ce ze W (HR.out.1.below L0.out) (by omega)).mono ?_
  rintro e w1 ⟨rfl, o1, b1⟩
  obtain ⟨ge, hge⟩ : ∃ g, g = W.heap.size := ⟨_, rfl⟩
  rw [← hge] at o1 ⊢
  have hk1 : w.heap.size + 1 + 1 < ge := by rw [hge]; have := O0.out.lt; omega
  have HG1 := hideV hge
  clear hge
  have Y1 := hideV (X0.out.below b1)
  have S1 := hideV (R0.out.below b1)
  have P1 := hideV (O0.out.below b1)
  have FS1 := hideV (FR0.out.below R0.out.lt b1)
  have FP1 := hideV (FO0.out.below O0.out.lt b1)
  have M1 := hideV (Mine.of_owns o1)
  have K1 := hideV (L0.out.trans (b1.mono L0.out.size))
  have Ue1 : Hid (Row w1 (some ⟨ge, 0, none⟩) ze) := by
    obtain ⟨ao', cap', e', hm⟩ := M1.out
    simp only [Value.slice.injEq, true_and] at e'
    obtain ⟨rfl, rfl⟩ := e'
    exact hm.row
  clear o1 b1 M1
  have c1 := P1.out
  obtain ⟨p0, p1, p2, p3, p4, p5, p6, p7⟩ := P1.out
  have pf := FP1.out 4
  obtain ⟨x0, x1, x2, x3, x4, x5, x6, x7⟩ := Y1.out
  have z1 := Y1.out.lt
  have z2 := P1.out.lt
  clear c1
  have V1 := hideV (grownBy_setCell w1 ⟨w.heap.size + 1 + 1, 4, none⟩ (.slice (some ⟨ge, 0, none⟩) ze.length ze.length))
  have X1 := hideV (Y1.out.grown V1.out (by simp; omega))
  have R1 := hideV (S1.out.grown V1.out (by simp))
  have O1 := hideV (P1.out.set4 (.slice (some ⟨ge, 0, none⟩) ze.length ze.length))
  have FR1 := hideV (FS1.out.set ⟨w.heap.size + 1 + 1, 4, none⟩ (.slice (some ⟨ge, 0, none⟩) ze.length ze.length))
  have FO1 := hideV (FP1.out.set ⟨w.heap.size + 1 + 1, 4, none⟩ (.slice (some ⟨ge, 0, none⟩) ze.length ze.length))
  have L1 := hideV (K1.out.grown V1.out (by have := Y1.out.lt; omega) (by intro k e; simp at e; omega))
  have Qe1 := hideV (Ue1.out.grown V1.out (fun ad e => by simp at e; subst e; simp; omega))
  clear Y1 S1 P1 FS1 FP1 K1 V1 Ue1
  go_wp2_with fail
  clear p0 p1 p2 p3 p4 p5 p6 p7 pf x0 x1 x2 x3 x4 x5 x6 x7 z1 z2
  generalize w1.setCell ⟨w.heap.size + 1 + 1, 4, none⟩ (.slice (some ⟨ge, 0, none⟩) ze.length ze.length) = W1 at *
  refine (toByteS_any an cn zn W1 (HR.out.2.1.below L1.out) (by omega)).mono ?_
  rintro e w2 ⟨rfl, o2, b2⟩
  obtain ⟨gn, hgn⟩ : ∃ g, g = W1.heap.size := ⟨_, rfl⟩
  rw [← hgn] at o2 ⊢
  have hk2 : w.heap.size + 1 + 1 < gn := by rw [hgn]; have := O1.out.lt; omega
  have HG2 := hideV hgn
  clear hgn
  have Y2 := hideV (X1.out.below b2)
  have S2 := hideV (R1.out.below b2)
  have P2 := hideV (O1.out.below b2)
  have FS2 := hideV (FR1.out.below R1.out.lt b2)
  have FP2 := hideV (FO1.out.below O1.out.lt b2)
  have M2 := hideV (Mine.of_owns o2)
  have K2 := hideV (L1.out.trans (b2.mono L1.out.size))
  have Ue2 := hideV (Qe1.out.below b2)
  have Un2 : Hid (Row w2 (some ⟨gn, 0, none⟩) zn) := by
    obtain ⟨ao', cap', e', hm⟩ := M2.out
    simp only [Value.slice.injEq, true_and] at e'
    obtain ⟨rfl, rfl⟩ := e'
    exact hm.row
  clear o2 b2 M2
  have c2 := P2.out
  obtain ⟨p0, p1, p2, p3, p4, p5, p6, p7⟩ := P2.out
  have pf := FP2.out 5
  obtain ⟨x0, x1, x2, x3, x4, x5, x6, x7⟩ := Y2.out
  have z1 := Y2.out.lt
  have z2 := P2.out.lt
  clear c2
  have V2 := hideV (grownBy_setCell w2 ⟨w.heap.size + 1 + 1, 5, none⟩ (.slice (some ⟨gn, 0, none⟩) zn.length zn.length))
  have X2 := hideV (Y2.out.grown V2.out (by simp; omega))
  have R2 := hideV (S2.out.grown V2.out (by simp))
  have O2 := hideV (P2.out.set5 (.slice (some ⟨gn, 0, none⟩) zn.length zn.length))
  have FR2 := hideV (FS2.out.set ⟨w.heap.size + 1 + 1, 5, none⟩ (.slice (some ⟨gn, 0, none⟩) zn.length zn.length))
  have FO2 := hideV (FP2.out.set ⟨w.heap.size + 1 + 1, 5, none⟩ (.slice (some ⟨gn, 0, none⟩) zn.length zn.length))
  have L2 := hideV (K2.out.grown V2.out (by have := Y2.out.lt; omega) (by intro k e; simp at e; omega))
  have Qe2 := hideV (Ue2.out.grown V2.out (fun ad e => by simp at e; subst e; simp; omega))
  have Qn2 := hideV (Un2.out.grown V2.out (fun ad e => by simp at e; subst e; simp; omega))
  clear Y2 S2 P2 FS2 FP2 K2 V2 Ue2 Un2
  go_wp2_with fail
  clear p0 p1 p2 p3 p4 p5 p6 p7 pf x0 x1 x2 x3 x4 x5 x6 x7 z1 z2
  generalize w2.setCell ⟨w.heap.size + 1 + 1, 5, none⟩ (.slice (some ⟨gn, 0, none⟩) zn.length zn.length) = W2 at *
  refine (toByteS_any ac cc zc W2 (HR.out.2.2.below L2.out) (by omega)).mono ?_
  rintro e w3 ⟨rfl, o3, b3⟩
  obtain ⟨gc, hgc⟩ : ∃ g, g = W2.heap.size := ⟨_, rfl⟩
  rw [← hgc] at o3 ⊢
  have hk3 : w.heap.size + 1 + 1 < gc := by rw [hgc]; have := O2.out.lt; omega
  have HG3 := hideV hgc
  clear hgc
  have Y3 := hideV (X2.out.below b3)
  have S3 := hideV (R2.out.below b3)
  have P3 := hideV (O2.out.below b3)
  have FS3 := hideV (FR2.out.below R2.out.lt b3)
  have FP3 := hideV (FO2.out.below O2.out.lt b3)
  have M3 := hideV (Mine.of_owns o3)
  have K3 := hideV (L2.out.trans (b3.mono L2.out.size))
  have Ue3 := hideV (Qe2.out.below b3)
  have Un3 := hideV (Qn2.out.below b3)
  have Uc3 : Hid (Row w3 (some ⟨gc, 0, none⟩) zc) := by
    obtain ⟨ao', cap', e', hm⟩ := M3.out
    simp only [Value.slice.injEq, true_and] at e'
    obtain ⟨rfl, rfl⟩ := e'
    exact hm.row
  clear o3 b3 M3
  have c3 := P3.out
  obtain ⟨p0, p1, p2, p3, p4, p5, p6, p7⟩ := P3.out
  have pf := FP3.out 6
  obtain ⟨x0, x1, x2, x3, x4, x5, x6, x7⟩ := Y3.out
  have z1 := Y3.out.lt
  have z2 := P3.out.lt
  clear c3
  have V3 := hideV (grownBy_setCell w3 ⟨w.heap.size + 1 + 1, 6, none⟩ (.slice (some ⟨gc, 0, none⟩) zc.length zc.length))
  have X3 := hideV (Y3.out.grown V3.out (by simp; omega))
  have R3 := hideV (S3.out.grown V3.out (by simp))
  have O3 := hideV (P3.out.set6 (.slice (some ⟨gc, 0, none⟩) zc.length zc.length))
  have FR3 := hideV (FS3.out.set ⟨w.heap.size + 1 + 1, 6, none⟩ (.slice (some ⟨gc, 0, none⟩) zc.length zc.length))
  have FO3 := hideV (FP3.out.set ⟨w.heap.size + 1 + 1, 6, none⟩ (.slice (some ⟨gc, 0, none⟩) zc.length zc.length))
  have L3 := hideV (K3.out.grown V3.out (by have := Y3.out.lt; omega) (by intro k e; simp at e; omega))
  have Qe3 := hideV (Ue3.out.grown V3.out (fun ad e => by simp at e; subst e; simp; omega))
  have Qn3 := hideV (Un3.out.grown V3.out (fun ad e => by simp at e; subst e; simp; omega))
  have Qc3 := hideV (Uc3.out.grown V3.out (fun ad e => by simp at e; subst e; simp; omega))
  clear Y3 S3 P3 FS3 FP3 K3 V3 Ue3 Un3 Uc3
  go_upto_region 9 with fail
  clear p0 p1 p2 p3 p4 p5 p6 p7 pf x0 x1 x2 x3 x4 x5 x6 x7 z1 z2
  generalize w3.setCell ⟨w.heap.size + 1 + 1, 6, none⟩ (.slice (some ⟨gc, 0, none⟩) zc.length zc.length) = W3 at *
  obtain ⟨p0, p1, p2, p3, p4, p5, p6, p7⟩ := O3.out
  have pf := FO3.out 7
  obtain ⟨x0, x1, x2, x3, x4, x5, x6, x7⟩ := X3.out
  have z1 := X3.out.lt
  have z2 := O3.out.lt
  go_upto_region 10 with fail
  clear p0 p1 p2 p3 p4 p5 p6 p7 pf x0 x1 x2 x3 x4 x5 x6 x7 z1 z2
  have V4 := hideV (grownBy_setCell W3 ⟨w.heap.size + 1 + 1, 7, none⟩ (.int .i64 sz))
  have R4 := hideV (R3.out.grown V4.out (by simp))
  have O4 := hideV (O3.out.set7 sz)
  have FR4 := hideV (FR3.out.set ⟨w.heap.size + 1 + 1, 7, none⟩ (.int .i64 sz))
  have L4 := hideV (L3.out.grown V4.out (by have := X3.out.lt; omega) (by intro k e; simp at e; omega))
  have Qe4 := hideV (Qe3.out.grown V4.out (fun ad e => by simp at e; subst e; simp; omega))
  have Qn4 := hideV (Qn3.out.grown V4.out (fun ad e => by simp at e; subst e; simp; omega))
  have Qc4 := hideV (Qc3.out.grown V4.out (fun ad e => by simp at e; subst e; simp; omega))
  clear V4
  generalize W3.setCell ⟨w.heap.size + 1 + 1, 7, none⟩ (.int .i64 sz) = W4 at *
  obtain ⟨p0, p1, p2, p3, p4, p5, p6, p7⟩ := O4.out
  obtain ⟨r0, r1, r2, r3, r4, r5, r6, r7⟩ := R4.out
  have f0 := FR4.out 0
  have f1 := FR4.out 1
  have f2 := FR4.out 2
  have f3 := FR4.out 3
  have f4 := FR4.out 4
  have f5 := FR4.out 5
  have f6 := FR4.out 6
  have f7 := FR4.out 7
  have z1 := R4.out.lt
  have z2 := O4.out.lt
  have E := hideV (mb_set8 R4.out f mt xf os sz (.slice (some ⟨ge, 0, none⟩) ze.length ze.length) (.slice (some ⟨gn, 0, none⟩) zn.length zn.length) (.slice (some ⟨gc, 0, none⟩) zc.length zc.length))
  have L5 := hideV (L4.out.grown E.out.2 (by omega) (by intro k e; simp at e; omega))
  have Qe5 := hideV (Qe4.out.grown E.out.2 (fun ad e => by simp at e; subst e; simp; omega))
  have Qn5 := hideV (Qn4.out.grown E.out.2 (fun ad e => by simp at e; subst e; simp; omega))
  have Qc5 := hideV (Qc4.out.grown E.out.2 (fun ad e => by simp at e; subst e; simp; omega))
  go_wp2_with fail
  obtain ⟨⟨y0, y1, y2, y3, y4, y5, y6, y7⟩, _⟩ := E.out
  exact bodyPost_ret (v := .agg #[.int .i64 f, .int .i64 mt, .int .i64 xf, .int .i64 os, .slice (some ⟨ge, 0, none⟩) ze.length ze.length, .slice (some ⟨gn, 0, none⟩) zn.length zn.length, .slice (some ⟨gc, 0, none⟩) zc.length zc.length, .int .i64 sz]) (by simp [results, Try.results16, go_sem, y0, y1, y2, y3, y4, y5, y6, y7]) rfl ⟨ge, gn, gc, rfl, Qe5.out, Qn5.out, Qc5.out, L5.out⟩
end Go.Proofs.Ytmfacacpoajpgad
