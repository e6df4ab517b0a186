import Derived.Test.YtlfabilmilkboaaGreatDoorMBS
namespace Go.Proofs.YtlfabilmilkboaaGreatDoor
open Go.RowKit
attribute [local go_sem ↓] Go.wp_at_zero Go.wp_at_succ
set_option linter.unusedVariables false

theorem w4_eq (w : World) (v : Value) (i cl : Int) (tv : Value) (D s : Int) (tr tt : TypeId) : (((w.alloc (.cells #[v, .int .i64 i, .int .i64 cl] tr)).alloc (.cells #[tv, .int .i64 D, .int .i64 s, .int .i64 100000] tt)).alloc (.cells #[.slice none 0 0, .int .i64 0, .int .i64 0] tr)).alloc (.cells #[.slice none 0 0, .int .i64 0, .int .i64 0, .int .i64 0] tt) = w4 w v i cl tv D s tr tt := rfl
theorem SM.cls {z : Nat} {w : World} {v : Value} {i cl : Int} {tv : Value} {D s : Int} (h : SM z w v i cl tv D s) (x : Int) : SM z (w.setCell ⟨z, 2, none⟩ (.int .i64 x)) v i x tv D s := by
  have hl := h.lt
  have hg := grownBy_setCell w ⟨z, 2, none⟩ (.int .i64 x)
  have c : ∀ b o, b < w.heap.size → b ≠ z → (w.setCell ⟨z, 2, none⟩ (.int .i64 x)).cell? ⟨b, o, none⟩ = w.cell? ⟨b, o, none⟩ := fun b o hb hne => grown_cell hg hb hne o
  have f : ∀ b o, b < w.heap.size → b ≠ z → (w.setCell ⟨z, 2, none⟩ (.int .i64 x)).frozen? ⟨b, o, none⟩ = w.frozen? ⟨b, o, none⟩ := fun b o hb hne => grown_frozen hg hb hne o
  exact ⟨h.r.set2 x, (c (z + 1) 0 (by omega) (by omega)).trans h.t0, (c (z + 1) 1 (by omega) (by omega)).trans h.t1, (c (z + 1) 2 (by omega) (by omega)).trans h.t2, (c (z + 1) 3 (by omega) (by omega)).trans h.t3, h.x.grown hg (by simp), (c (z + 3) 0 (by omega) (by omega)).trans h.y0, (c (z + 3) 1 (by omega) (by omega)).trans h.y1, (c (z + 3) 2 (by omega) (by omega)).trans h.y2, (c (z + 3) 3 (by omega) (by omega)).trans h.y3, fun o => (f (z + 1) o (by omega) (by omega)).trans (h.tf o), fun o => (f (z + 3) o (by omega) (by omega)).trans (h.yf o)⟩
theorem SM.plc {z : Nat} {w : World} {v : Value} {i cl : Int} {tv : Value} {D s : Int} (h : SM z w v i cl tv D s) (x : Int) : SM z (w.setCell ⟨z, 1, none⟩ (.int .i64 x)) v x cl tv D s := by
  have hl := h.lt
  have hg := grownBy_setCell w ⟨z, 1, none⟩ (.int .i64 x)
  have c : ∀ b o, b < w.heap.size → b ≠ z → (w.setCell ⟨z, 1, none⟩ (.int .i64 x)).cell? ⟨b, o, none⟩ = w.cell? ⟨b, o, none⟩ := fun b o hb hne => grown_cell hg hb hne o
  have f : ∀ b o, b < w.heap.size → b ≠ z → (w.setCell ⟨z, 1, none⟩ (.int .i64 x)).frozen? ⟨b, o, none⟩ = w.frozen? ⟨b, o, none⟩ := fun b o hb hne => grown_frozen hg hb hne o
  exact ⟨h.r.set1 x, (c (z + 1) 0 (by omega) (by omega)).trans h.t0, (c (z + 1) 1 (by omega) (by omega)).trans h.t1, (c (z + 1) 2 (by omega) (by omega)).trans h.t2, (c (z + 1) 3 (by omega) (by omega)).trans h.t3, h.x.grown hg (by simp), (c (z + 3) 0 (by omega) (by omega)).trans h.y0, (c (z + 3) 1 (by omega) (by omega)).trans h.y1, (c (z + 3) 2 (by omega) (by omega)).trans h.y2, (c (z + 3) 3 (by omega) (by omega)).trans h.y3, fun o => (f (z + 1) o (by omega) (by omega)).trans (h.tf o), fun o => (f (z + 3) o (by omega) (by omega)).trans (h.yf o)⟩
theorem SI.cls {w : World} {a0 : Option Addr} {B : Nat} {wr : World} {v : Value} {i cl : Int} {a : Option Addr} {c : Nat} {all : List Int} {D s : Int} (h : SI w a0 B wr v i cl a c all D s) (x : Int) : SI w a0 B (wr.setCell ⟨w.heap.size, 2, none⟩ (.int .i64 x)) v i x a c all D s :=
  ⟨h.sm.cls x, h.own.grown (grownBy_setCell _ _ _) (fun k e e2 => by simp at e; have := h.out k e2; omega), grownBy_row h.gr (grownBy_setCell _ _ _) (fun g e => by simp at e; exact .inr (by omega)), h.far, h.low⟩
theorem SI.plc {w : World} {a0 : Option Addr} {B : Nat} {wr : World} {v : Value} {i cl : Int} {a : Option Addr} {c : Nat} {all : List Int} {D s : Int} (h : SI w a0 B wr v i cl a c all D s) (x : Int) : SI w a0 B (wr.setCell ⟨w.heap.size, 1, none⟩ (.int .i64 x)) v x cl a c all D s :=
  ⟨h.sm.plc x, h.own.grown (grownBy_setCell _ _ _) (fun k e e2 => by simp at e; have := h.out k e2; omega), grownBy_row h.gr (grownBy_setCell _ _ _) (fun g e => by simp at e; exact .inr (by omega)), h.far, h.low⟩
theorem SM.one {z : Nat} {w : World} {v : Value} {i cl : Int} {tv : Value} {D s : Int} (h : SM z w v i cl tv D s) (x : Value) : SM z (w.setCell ⟨z + 1, 0, none⟩ x) v i cl x D s := by
  have hl := h.lt
  have hg := grownBy_setCell w ⟨z + 1, 0, none⟩ x
  have c : ∀ b o, b < w.heap.size → b ≠ z + 1 → (w.setCell ⟨z + 1, 0, none⟩ x).cell? ⟨b, o, none⟩ = w.cell? ⟨b, o, none⟩ := fun b o hb hne => grown_cell hg hb hne o
  have f : ∀ b o, b < w.heap.size → b ≠ z + 1 → (w.setCell ⟨z + 1, 0, none⟩ x).frozen? ⟨b, o, none⟩ = w.frozen? ⟨b, o, none⟩ := fun b o hb hne => grown_frozen hg hb hne o
  exact ⟨h.r.grown hg (by simp), World.cell?_setCell_same _ _ _ h.t0, set_far _ (by decide) h.t1, set_far _ (by decide) h.t2, set_far _ (by decide) h.t3, h.x.grown hg (by simp), (c (z + 3) 0 (by omega) (by omega)).trans h.y0, (c (z + 3) 1 (by omega) (by omega)).trans h.y1, (c (z + 3) 2 (by omega) (by omega)).trans h.y2, (c (z + 3) 3 (by omega) (by omega)).trans h.y3, fun o => by rw [World.frozen?_setCell]; exact h.tf o, fun o => (f (z + 3) o (by omega) (by omega)).trans (h.yf o)⟩
/-- The told bytes have grown, and the slice was written. -/
theorem SI.grew {w : World} {a0 : Option Addr} {B : Nat} {wr w' : World} {v : Value} {i cl : Int} {a : Option Addr} {c : Nat} {all : List Int} {D s : Int} (h : SI w a0 B wr v i cl a c all D s) {a' : Option Addr} {c' : Nat} {all' : List Int} (ho : OwnsB 5 B w' a' c' all') (hg : wr.grownBy w' (blk a)) (hf : ∀ g, blk a' = some g → blk a = some g ∨ wr.heap.size ≤ g) :
    SI w a0 B (w'.setCell ⟨w.heap.size + 1, 0, none⟩ (.slice a' all'.length c')) v i cl a' c' all' D s := by
  have hl := h.sm.lt
  have hsm := h.sm.grown hg (fun k e => h.out k e)
  have hfar : ∀ g, blk a' = some g → blk a0 = some g ∨ w.heap.size + 4 ≤ g := fun g e => by
    rcases hf g e with h1 | h1
    · exact h.far g h1
    · exact .inr (by omega)
  have hgr : w.grownBy w' (blk a0) := grownBy_row h.gr hg (fun g e => by
    rcases h.far g e with h1 | h1
    · exact .inl h1
    · exact .inr (by omega))
  refine ⟨hsm.one _, ho.grown (grownBy_setCell _ _ _) (fun k e e2 => by
    simp at e
    rcases hfar k e2 with h1 | h1
    · have := h.low k h1; omega
    · omega), grownBy_row hgr (grownBy_setCell _ _ _) (fun g e => by simp at e; exact .inr (by omega)), hfar, h.low⟩
/-- The answers are written: what comes of it. -/
theorem SI.post {w : World} {a0 : Option Addr} {B : Nat} {wr : World} {v : Value} {i : Nat} {cl : Int} {a : Option Addr} {c : Nat} {all : List Int} {D s : Int} {Rel : RR → List Int → Prop} (h : SI w a0 B wr v (i : Nat) cl a c all D s) (hrel : Rel (i, cl) all) (W : World) (hW : W = wT (wR wr (w.heap.size + 2) v (i : Nat) cl) (w.heap.size + 3) (.slice a all.length c) D s ∨ W = wR (wT wr (w.heap.size + 3) (.slice a all.length c) D s) (w.heap.size + 2) v (i : Nat) cl) :
    (W.cell? ⟨w.heap.size + 2, 0, none⟩ = some v ∧ W.cell? ⟨w.heap.size + 2, 1, none⟩ = some (.int .i64 (i : Nat)) ∧ W.cell? ⟨w.heap.size + 2, 2, none⟩ = some (.int .i64 cl) ∧ W.cell? ⟨w.heap.size + 3, 0, none⟩ = some (.slice a all.length c) ∧ W.cell? ⟨w.heap.size + 3, 1, none⟩ = some (.int .i64 D) ∧ W.cell? ⟨w.heap.size + 3, 2, none⟩ = some (.int .i64 s) ∧ W.cell? ⟨w.heap.size + 3, 3, none⟩ = some (.int .i64 100000)) ∧ ToldPost v D s B a0 Rel (.returned (.tuple #[.agg #[v, .int .i64 (i : Nat), .int .i64 cl], .agg #[.slice a all.length c, .int .i64 D, .int .i64 s, .int .i64 100000]])) w W.drew ∧ ToldPost v D s B a0 Rel (.returned (.tuple #[.agg #[v, .int .i64 (i : Nat), .int .i64 cl], .agg #[.slice a all.length c, .int .i64 D, .int .i64 s, .int .i64 100000]])) w W := by
  obtain ⟨k, ow, gw, fw⟩ := h.done W hW
  exact ⟨k, ⟨i, cl, a, c, all, rfl, ow.below (Below.refl _ _).drew, grownBy_row gw (grownBy_of_below (Below.refl _ _).drew none) (fun g e => by cases e), fw, hrel⟩, i, cl, a, c, all, rfl, ow, gw, fw, hrel⟩
set_option maxRecDepth 100000 in
set_option maxHeartbeats 6400000 in
theorem l5Tell_any (ao : Option Addr) (Z cap i : Nat) (cl : Int) (a : Option Addr) (c : Nat) (all : List Int) (D s : Nat) (da : Option Addr) (dc : Nat) (data : List Int) (B : Nat) (w : World) (ho : OwnsB 5 B w a c all) (hB : B ≤ w.heap.size) (hr : Row w da data) (hnil : da = none → data.length = 0 ∧ dc = 0) (hD : D ≤ all.length) (hal : all.length ≤ 200000) (hdl : data.length ≤ 1000) :
    Calls Tryz.prog 34 #[.agg #[.slice ao Z cap, .int .i64 (i : Nat), .int .i64 cl], .agg #[.slice a all.length c, .int .i64 (D : Nat), .int .i64 (s : Nat), .int .i64 100000], .slice da data.length dc] w fun e w' => ToldPost (.slice ao Z cap) (D : Nat) (s : Nat) B a (fun r' all' => (r', all') = tlP D (i, cl) all data) e w w' := by
  obtain ⟨i0, hi, hz0, hz1, hz2⟩ := info_parts Tryz.info_u8s
  have S0 := hideM (si_new w a B (.slice ao Z cap) (i : Nat) cl c all (D : Nat) (s : Nat) 33 35 ho)
  have HR := hideM (hr.below (w4_below w (.slice ao Z cap) (i : Nat) cl (.slice a all.length c) (D : Nat) (s : Nat) 33 35))
  have HZ := w4_size w (.slice ao Z cap) (i : Nat) cl (.slice a all.length c) (D : Nat) (s : Nat) 33 35
  have HN := hideM hnil
  clear ho hr hnil
  go_enter Tryz.func34, Tryz.ntmps34
  go_upto_region 1 with fail
  rw [w4_eq]
  generalize w4 w (.slice ao Z cap) (i : Nat) cl (.slice a all.length c) (D : Nat) (s : Nat) 33 35 = W at *
  obtain ⟨⟨b0, b1, b2, bf⟩, t0, t1, t2, t3, ⟨x0, x1, x2, xf⟩, y0, y1, y2, y3, tf, yf⟩ := S0.out.sm
  by_cases hc : cl = 0
  · subst hc
    by_cases hL : 100000 < all.length - D + data.length
    · have hd : decide ((all.length : Int) - (D : Int) + (data.length : Int) > 100000) = true := decide_eq_true (by omega)
      have HT : Hid (((i, (6 : Int)), all) = tlP D (i, 0) all data) := by show _ = _; unfold tlP; rw [if_pos rfl, if_pos hL]
      have S1 := hideM (S0.out.cls 6)
      have bf2 := bf 2
      clear hL
      go_upto_region 5 with fail
      generalize W.setCell ⟨w.heap.size, 2, none⟩ (.int .i64 6) = W1 at *
      clear b0 b1 b2 bf bf2 t0 t1 t2 t3 x0 x1 x2 xf y0 y1 y2 y3 tf yf HZ S0
      obtain ⟨⟨b0, b1, b2, bf⟩, t0, t1, t2, t3, ⟨x0, x1, x2, xf⟩, y0, y1, y2, y3, tf, yf⟩ := S1.out.sm
      have zz := S1.out.sm.lt
      have xf0 := xf 0
      have xf1 := xf 1
      have xf2 := xf 2
      have yf0 := yf 0
      have yf1 := yf 1
      have yf2 := yf 2
      have yf3 := yf 3
      clear bf xf tf yf
      have DN := hideM (fun W hW => S1.out.post (Rel := fun r' all' => (r', all') = tlP D (i, 0) all data) HT.out W hW)
      clear S1
      go_region
      go_wp2_with fail
      have DN1 := DN.out _ (.inl rfl)
      unfold wT wR at DN1
      obtain ⟨⟨k0, k1, k2, k3, k4, k5, k6⟩, P1, P2⟩ := DN1
      exact bodyPost_ret (v := .tuple #[.agg #[.slice ao Z cap, .int .i64 (i : Nat), .int .i64 6], .agg #[.slice a (List.length all) c, .int .i64 (D : Nat), .int .i64 (s : Nat), .int .i64 100000]]) (by simp [results, Tryz.results34, go_sem, k0, k1, k2, k3, k4, k5, k6]) rfl (by first | exact P1 | exact P2)
    · have hd : decide ((all.length : Int) - (D : Int) + (data.length : Int) > 100000) = false := decide_eq_false (by omega)
      have HT : Hid (((i, (0 : Int)), all ++ data) = tlP D (i, 0) all data) := by show _ = _; unfold tlP; rw [if_pos rfl, if_neg hL]
      have tf0 := tf 0
      have HO := hideM S0.out.own
      clear hL bf xf tf yf x0 x1 x2 y0 y1 y2 y3
      go_wp2_with (at_builtin; refine wpList_append_row _ rfl _ _ 22 rfl B 5 i0 (.int .u8 0) 1 Tryz.underlying22 hi hz0 hz1 hz2 rfl (.slice a all.length c) all.length (all.map (Value.int .u8)) rfl HO.out da dc data rfl HR.out HN.out (by unfold maxLen; omega) (by omega) (by omega) ?_)
      intro v' w1 hown hgrow hat
      rw [← List.map_append] at hown
      obtain ⟨a', c', e', ho'⟩ := OwnsB.of hown
      subst e'
      have hown' : (Value.slice a' (all ++ data).length c').ownBlock = blk a' := by cases a' <;> rfl
      have hown2 : (Value.slice a all.length c).ownBlock = blk a := by cases a <;> rfl
      rw [hown', hown2] at hat
      rw [hown2] at hgrow
      have S1 := hideM (S0.out.grew ho' hgrow (fun g e => by
        rcases hat with h1 | h1
        · exact .inl (h1 ▸ e)
        · rw [h1] at e; simp at e; exact .inr (by omega)))
      obtain ⟨X, hX⟩ : ∃ X, all ++ data = X := ⟨_, rfl⟩
      rw [hX] at S1 HT ⊢
      have S9 := S0.out.sm.grown hgrow (fun k e => S0.out.out k e)
      clear b0 b1 b2 t0 t1 t2 t3 tf0 HZ S0 hown hgrow hat ho' HO hown' hown2
      obtain ⟨⟨b0, b1, b2, bf⟩, t0, t1, t2, t3, ⟨x0, x1, x2, xf⟩, y0, y1, y2, y3, tf, yf⟩ := S9
      have tf0 := tf 0
      have zz := S1.out.sm.lt
      clear hX
      clear bf xf tf yf
      go_upto_region 5 with fail
      generalize w1.setCell ⟨w.heap.size + 1, 0, none⟩ (.slice a' (List.length X) c') = W1 at *
      clear b0 b1 b2 t0 t1 t2 t3 x0 x1 x2 y0 y1 y2 y3 tf0 zz
      obtain ⟨⟨b0, b1, b2, bf⟩, t0, t1, t2, t3, ⟨x0, x1, x2, xf⟩, y0, y1, y2, y3, tf, yf⟩ := S1.out.sm
      have zz := S1.out.sm.lt
      have xf0 := xf 0
      have xf1 := xf 1
      have xf2 := xf 2
      have yf0 := yf 0
      have yf1 := yf 1
      have yf2 := yf 2
      have yf3 := yf 3
      clear bf xf tf yf
      have DN := hideM (fun W hW => S1.out.post (Rel := fun r' all' => (r', all') = tlP D (i, 0) all data) HT.out W hW)
      clear S1
      go_region
      go_wp2_with fail
      have DN1 := DN.out _ (.inl rfl)
      unfold wT wR at DN1
      obtain ⟨⟨k0, k1, k2, k3, k4, k5, k6⟩, P1, P2⟩ := DN1
      exact bodyPost_ret (v := .tuple #[.agg #[.slice ao Z cap, .int .i64 (i : Nat), .int .i64 0], .agg #[.slice a' (List.length X) c', .int .i64 (D : Nat), .int .i64 (s : Nat), .int .i64 100000]]) (by simp [results, Tryz.results34, go_sem, k0, k1, k2, k3, k4, k5, k6]) rfl (by first | exact P1 | exact P2)
  · have hcb : (cl == 0) = false := by simp [hc]
    have HT : Hid (((i, cl), all) = tlP D (i, cl) all data) := by show _ = _; unfold tlP; rw [if_neg hc]
    clear hc
    go_upto_region 5 with fail
    clear b0 b1 b2 bf t0 t1 t2 t3 x0 x1 x2 xf y0 y1 y2 y3 tf yf HZ
    obtain ⟨⟨b0, b1, b2, bf⟩, t0, t1, t2, t3, ⟨x0, x1, x2, xf⟩, y0, y1, y2, y3, tf, yf⟩ := S0.out.sm
    have zz := S0.out.sm.lt
    have xf0 := xf 0
    have xf1 := xf 1
    have xf2 := xf 2
    have yf0 := yf 0
    have yf1 := yf 1
    have yf2 := yf 2
    have yf3 := yf 3
    clear bf xf tf yf
    have DN := hideM (fun W hW => S0.out.post (Rel := fun r' all' => (r', all') = tlP D (i, cl) all data) HT.out W hW)
    clear S0
    go_region
    go_wp2_with fail
    have DN1 := DN.out _ (.inl rfl)
    unfold wT wR at DN1
    obtain ⟨⟨k0, k1, k2, k3, k4, k5, k6⟩, P1, P2⟩ := DN1
    exact bodyPost_ret (v := .tuple #[.agg #[.slice ao Z cap, .int .i64 (i : Nat), .int .i64 cl], .agg #[.slice a (List.length all) c, .int .i64 (D : Nat), .int .i64 (s : Nat), .int .i64 100000]]) (by simp [results, Tryz.results34, go_sem, k0, k1, k2, k3, k4, k5, k6]) rfl (by first | exact P1 | exact P2)
end Go.Proofs.YtlfabilmilkboaaGreatDoor
namespace Go.Proofs.YtlfabilmilkboaaGreatDoor
open Go.RowKit
attribute [local go_sem ↓] Go.wp_at_zero Go.wp_at_succ
set_option linter.unusedVariables false

theorem lenR_next (n : Nat) (h0 : 257 < n) (h1 : n ≤ 284) : (lenR n).1 = (lenR (n - 1)).1 + 2 ^ (lenR (n - 1)).2 := by
  have h : ∀ k : Fin 27, (lenR (258 + k.val)).1 = (lenR (258 + k.val - 1)).1 + 2 ^ (lenR (258 + k.val - 1)).2 := by decide +kernel
  have := h ⟨n - 258, by omega⟩
  dsimp only at this
  rw [show 258 + (n - 258) = n from by omega] at this
  exact this
theorem lenR_ex (n : Nat) (h0 : 265 ≤ n) (h1 : n ≤ 284) : (lenR n).2 = (n - 261) / 4 := by
  unfold lenR
  rw [if_neg (by omega), if_neg (by omega)]
  show (n - 257) / 4 - 1 = _
  omega
theorem lenR_ex0 (n : Nat) (h1 : n < 265) : (lenR n).2 = 0 := by
  unfold lenR
  rw [if_pos h1]
set_option maxRecDepth 100000 in
set_option maxHeartbeats 3200000 in
theorem l5Length_any (n : Nat) (h0 : 257 ≤ n) (h1 : n ≤ 285) (w : World) :
    Calls Tryz.prog 57 #[.int .i64 (n : Nat)] w fun e w' => e = .returned (.tuple #[.int .i64 ((lenR n).1 : Nat), .int .i64 ((lenR n).2 : Nat)]) ∧ w' = w := by
  have HP : Hid (∀ (m P : Nat) (W : World), m ≤ 62 → 2 ^ m = P → Calls Tryz.prog 54 #[.int .i64 (m : Nat)] W fun e w' => e = .returned (.int .i64 (P : Nat)) ∧ w' = W) := fun m P W hm hP => l3Pow_any m P hm hP W
  by_cases h5 : n = 285
  · subst h5
    go_enter Tryz.func57, Tryz.ntmps57
    go_wp2_with fail
    go_ret2
    exact ⟨rfl, rfl⟩
  · have hb5 : ((n : Int) == 285) = false := by simp; omega
    have hlt : n ≤ 284 := by omega
    clear h5 h1
    go_enter Tryz.func57, Tryz.ntmps57
    go_wp2_with fail
    go_loop [4, 5, 6] (fun x y i => ∃ (k b e : Nat), 257 ≤ k ∧ k ≤ n + 1 ∧ i = .int .i64 (k : Nat) ∧ x = .int .i64 (b : Nat) ∧ y = .int .i64 (e : Nat) ∧ Hid (k = 257 → b = 3 ∧ e = 0) ∧ Hid (257 < k → b = (lenR (k - 1)).1 ∧ e = (lenR (k - 1)).2) ∧ b ≤ 300 ∧ e ≤ 5) (fun _ _ i => n + 1 - (intOf i).toNat)
    case atStart => exact ⟨257, 3, 0, by omega, by omega, rfl, rfl, rfl, (fun _ => ⟨rfl, rfl⟩ : (257 : Nat) = 257 → (3 : Nat) = 3 ∧ (0 : Nat) = 0), (fun h => absurd h (by omega) : (257 : Nat) < 257 → _), by omega, by omega⟩
    case round =>
      obtain ⟨k, b, e, hk0, hk1, rfl, rfl, rfl, HA, HB, hb, he⟩ := hrel
      by_cases hlt2 : k ≤ n
      · have hle := decide_eq_true (p := (k : Int) ≤ (n : Int)) (by omega)
        by_cases h7 : k = 257
        · subst h7
          obtain ⟨rfl, rfl⟩ := HA.out rfl
          go_wp2_with fail
          go_round
          case rel => exact ⟨258, 3, 0, by omega, by omega, by go_num, rfl, rfl, (fun h => absurd h (by omega) : (258 : Nat) = 257 → _), (fun _ => ⟨rfl, rfl⟩ : (257 : Nat) < 258 → (3 : Nat) = (lenR 257).1 ∧ (0 : Nat) = (lenR 257).2), by omega, by omega⟩
          case measure => simp [intOf]; omega
        · have hg7 : decide ((k : Int) > 257) = true := decide_eq_true (by omega)
          obtain ⟨e1, e2⟩ := HB.out (by omega)
          have hn := lenR_next k (by omega) (by omega)
          rw [← e1, ← e2] at hn
          have hlr := lenR_le k (by omega) (by omega)
          obtain ⟨P, hP⟩ : ∃ P, 2 ^ e = P := ⟨_, rfl⟩
          rw [hP] at hn
          have hP0 : P ≤ 32 := by rw [← hP]; exact Nat.pow_le_pow_right (n := 2) (by decide) he
          have HPP := hideM hP
          have HLR := hideM hlr
          have HN := hideM hn
          have HE1 := hideM (And.intro e1 e2)
          clear e1 e2 hn hP hlr HA HB h7
          by_cases h65 : 265 ≤ k
          · have hg65 : decide ((k : Int) ≥ 265) = true := decide_eq_true (by omega)
            obtain ⟨q, hq⟩ : ∃ q : Nat, (k - 261) / 4 = q := ⟨_, rfl⟩
            have hqd : ((k : Int) - 261).tdiv 4 = (q : Int) := by
              rw [Int.tdiv_eq_ediv_of_nonneg (by omega)]
              omega
            have hq5 : q ≤ 5 := by omega
            have HX : Hid (b + P = (lenR k).1 ∧ q = (lenR k).2) := ⟨HN.out.symm, by rw [lenR_ex k h65 (by omega), hq]⟩
            clear h65 hq
            go_wp2_with fail
            refine Calls.mono (HP.out e P _ (by omega) HPP.out) ?_
            rintro e' w1 ⟨rfl, rfl⟩
            go_wp2_with fail
            go_round
            case rel => exact ⟨k + 1, b + P, q, by omega, by omega, by go_num, by go_num, rfl, (fun h => absurd h (by omega) : k + 1 = 257 → _), (fun _ => HX.out : 257 < k + 1 → _), by have := HLR.out; have := HX.out; have := Nat.two_pow_pos (lenR k).2; omega, hq5⟩
            case measure => simp [intOf]; omega
          · have hg65 : decide ((k : Int) ≥ 265) = false := decide_eq_false (by omega)
            have HX : Hid (b + P = (lenR k).1 ∧ 0 = (lenR k).2) := ⟨HN.out.symm, by rw [lenR_ex0 k (by omega)]⟩
            clear h65
            go_wp2_with fail
            refine Calls.mono (HP.out e P _ (by omega) HPP.out) ?_
            rintro e' w1 ⟨rfl, rfl⟩
            go_wp2_with fail
            go_round
            case rel => exact ⟨k + 1, b + P, 0, by omega, by omega, by go_num, by go_num, rfl, (fun h => absurd h (by omega) : k + 1 = 257 → _), (fun _ => HX.out : 257 < k + 1 → _), by have := HLR.out; have := HX.out; have := Nat.two_pow_pos (lenR k).2; omega, by omega⟩
            case measure => simp [intOf]; omega
      · have hle := decide_eq_false (p := (k : Int) ≤ (n : Int)) (by omega)
        have hkn : k - 1 = n := by omega
        have HF : Hid (b = (lenR n).1 ∧ e = (lenR n).2) := by have := HB.out (by omega); rw [hkn] at this; exact this
        clear HA HB hkn
        go_wp2_with fail
        go_ret2
        rw [← HF.out.1, ← HF.out.2]
        exact ⟨rfl, rfl⟩
set_option maxRecDepth 100000 in
theorem l5Dist_any (n : Nat) (h1 : n ≤ 29) (w : World) :
    Calls Tryz.prog 58 #[.int .i64 (n : Nat)] w fun e w' => e = .returned (.tuple #[.int .i64 ((distR n).1 : Nat), .int .i64 ((distR n).2 : Nat)]) ∧ w' = w := by
  have HP : Hid (∀ (m P : Nat) (W : World), m ≤ 62 → 2 ^ m = P → Calls Tryz.prog 54 #[.int .i64 (m : Nat)] W fun e w' => e = .returned (.int .i64 (P : Nat)) ∧ w' = W) := fun m P W hm hP => l3Pow_any m P hm hP W
  by_cases h4 : n < 4
  · have hd : decide ((n : Int) < 4) = true := decide_eq_true (by omega)
    have HX : Hid (n + 1 = (distR n).1 ∧ 0 = (distR n).2) := by unfold distR; rw [if_pos h4]; exact ⟨rfl, rfl⟩
    clear h4
    go_enter Tryz.func58, Tryz.ntmps58
    go_wp2_with fail
    go_ret2
    rw [← HX.out.1, ← HX.out.2]
    exact ⟨rfl, rfl⟩
  · have hd : decide ((n : Int) < 4) = false := decide_eq_false (by omega)
    obtain ⟨q, hq⟩ : ∃ q : Nat, n / 2 = q := ⟨_, rfl⟩
    obtain ⟨m, hm⟩ : ∃ m : Nat, n % 2 = m := ⟨_, rfl⟩
    have hqd : ((n : Int)).tdiv 2 = (q : Int) := by rw [Int.tdiv_eq_ediv_of_nonneg (by omega)]; omega
    have hmd : ((n : Int)).tmod 2 = (m : Int) := by rw [Int.tmod_eq_emod_of_nonneg (by omega)]; omega
    have hq2 : 2 ≤ q ∧ q ≤ 14 := by omega
    have hm1 : m ≤ 1 := by omega
    obtain ⟨e, he⟩ : ∃ e : Nat, q = e + 1 := ⟨q - 1, by omega⟩
    obtain ⟨P, hP⟩ : ∃ P, 2 ^ e = P := ⟨_, rfl⟩
    have hP0 : P ≤ 8192 := by rw [← hP]; exact Nat.pow_le_pow_right (n := 2) (by decide) (by omega : e ≤ 13)
    have HX : Hid ((2 + m) * P + 1 = (distR n).1 ∧ e = (distR n).2) := by
      unfold distR
      rw [if_neg h4, hm, hq, he, Nat.add_sub_cancel, hP]
      exact ⟨rfl, rfl⟩
    have HPP := hideM hP
    have hes : (q : Int) - 1 = (e : Int) := by omega
    have h0 : (2 + m) * P ≤ 3 * 8192 := Nat.mul_le_mul (by omega) hP0
    have hmu : (2 + (m : Int)) * (P : Int) = (((2 + m) * P : Nat) : Int) := by rw [Int.natCast_mul]; rfl
    obtain ⟨M, hM⟩ : ∃ M, (2 + m) * P = M := ⟨_, rfl⟩
    rw [hM] at h0 hmu HX
    clear h4 hq hm hP he hM
    go_enter Tryz.func58, Tryz.ntmps58
    go_wp2_with fail
    refine Calls.mono (HP.out e P _ (by omega) HPP.out) ?_
    rintro e' w1 ⟨rfl, rfl⟩
    go_wp2_with fail
    go_ret2
    rw [← HX.out.1, ← HX.out.2]
    exact ⟨rfl, rfl⟩
end Go.Proofs.YtlfabilmilkboaaGreatDoor
