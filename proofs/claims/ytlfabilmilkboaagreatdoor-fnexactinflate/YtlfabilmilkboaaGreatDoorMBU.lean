import Derived.Test.YtlfabilmilkboaaGreatDoorMBT
namespace Go.Proofs.YtlfabilmilkboaaGreatDoor
open Go.RowKit
attribute [local go_sem ↓] Go.wp_at_zero Go.wp_at_succ
set_option linter.unusedVariables false

theorem copyN_at (all : List Int) (dist : Nat) (m n : Nat) (h : m < n) : (copyN all dist n).getD (all.length + m) 0 = (copyN all dist m).getD (all.length + m - dist) 0 := by
  induction n with
  | zero => omega
  | succ n ih =>
    rw [copyN]
    have hl := copyN_len all dist n
    by_cases e : m = n
    · subst e
      rw [List.getD_eq_getElem?_getD, List.getElem?_append_right (by omega), hl, Nat.sub_self]
      rfl
    · have := ih (by omega)
      rw [← this, List.getD_eq_getElem?_getD, List.getElem?_append_left (by omega), ← List.getD_eq_getElem?_getD]
theorem copyN_low (all : List Int) (dist n j : Nat) (h : j < all.length) : (copyN all dist n).getD j 0 = all.getD j 0 := by
  induction n with
  | zero => rfl
  | succ n ih =>
    have hl := copyN_len all dist n
    rw [copyN, List.getD_eq_getElem?_getD, List.getElem?_append_left (by omega), ← List.getD_eq_getElem?_getD, ih]
theorem copy_byte (all : List Int) (dist : Nat) (h1 : 1 ≤ dist) (h2 : dist ≤ all.length) : ∀ n : Nat, (copyN all dist n).getD ((copyN all dist n).length - dist) 0 = all.getD (all.length - dist + n % dist) 0 := by
  intro n
  induction n using Nat.strongRecOn with
  | _ n ih =>
    rw [copyN_len]
    by_cases hn : n < dist
    · rw [copyN_low _ _ _ _ (by omega), Nat.mod_eq_of_lt hn]
      congr 1
      omega
    · have h3 := copyN_at all dist (n - dist) n (by omega)
      have h4 := ih (n - dist) (by omega)
      rw [copyN_len] at h4
      rw [show all.length + n - dist = all.length + (n - dist) from by omega, h3, h4, ← Nat.mod_eq_sub_mod (show n ≥ dist by omega)]
theorem irow_one (w : World) (x : Int) (t : TypeId) : Row (w.alloc (.cells #[.int .u8 x] t)) (some ⟨w.heap.size, 0, none⟩) [x] := by
  refine Row.of fun i hi => ?_
  have h : i = 0 := by simp at hi; omega
  subst h
  simp [go_sem]
theorem itk_lt (zs : List Int) (r : RR) (n : Nat) : (tk zs r n).2 < 2 ^ n := by
  unfold tk
  split
  · split
    · exact field_lt _ _ _
    · exact Nat.two_pow_pos _
  · exact Nat.two_pow_pos _
theorem ibdP_true {i i' : Nat} {c c' : Int} (h : bdP (i, c) true = (i', c')) : c' ≠ 0 := by
  unfold bdP at h
  split at h
  · injection h with _ h
    omega
  · rename_i hn
    injection h with _ h
    subst h
    intro e
    exact hn ⟨e, rfl⟩
theorem ownw0i (W : World) (base e g : Nat) (hb : base ≤ W.heap.size) (hg : W.heap.size = g) : (W.alloc (.cells #[] e)).ownsRow base e 1 (.slice (some ⟨g, 0, none⟩) 0 0) 0 [] := by
  subst hg
  exact World.ownsRow_lit W #[] 0 hb (by unfold maxLen; omega) rfl
theorem OwnsB.bare {e B : Nat} {w : World} {ao : Option Addr} {cap : Nat} {zs : List Int} (h : OwnsB e B w ao cap zs) : ao = none → zs.length = 0 ∧ cap = 0 := by
  intro e
  rcases h.2 with ⟨h1, _⟩ | ⟨g', cap', cur, h1, _⟩
  · simp only [Value.slice.injEq] at h1
    exact ⟨h1.2.1, h1.2.2⟩
  · simp only [Value.slice.injEq] at h1
    rw [h1.1] at e
    cases e
theorem SI.farther {w : World} {a0 : Option Addr} {B : Nat} {wr w' : World} {v : Value} {i cl : Int} {a : Option Addr} {c : Nat} {all : List Int} {D s : Int} {row : Option Nat} (h : SI w a0 B wr v i cl a c all D s) (hg : wr.grownBy w' row) (hr : ∀ k, row = some k → w.heap.size + 4 ≤ k) (hne : ∀ k, row = some k → blk a ≠ some k) : SI w a0 B w' v i cl a c all D s :=
  ⟨h.sm.grown hg (fun k e => .inr (hr k e)), h.own.grown hg hne, grownBy_row h.gr hg (fun g e => .inr (by have := hr g e; omega)), h.far, h.low⟩
/-- Another function's answer is handed on. -/
theorem SI.relay {w : World} {a0 : Option Addr} {B : Nat} {wr w' : World} {v : Value} {i cl : Int} {a : Option Addr} {c : Nat} {all : List Int} {D s : Int} {Rel : RR → List Int → Prop} (h : SI w a0 B wr v i cl a c all D s) {i' : Nat} {cl' : Int} {a' : Option Addr} {c' : Nat} {all' : List Int} (ho : OwnsB 5 B w' a' c' all') (hg : wr.grownBy w' (blk a)) (hf : ∀ g, blk a' = some g → blk a = some g ∨ wr.heap.size ≤ g) (hrel : Rel (i', cl') all') :
    ((wT (wR w' (w.heap.size + 2) v (i' : Nat) cl') (w.heap.size + 3) (.slice a' all'.length c') D s).cell? ⟨w.heap.size + 2, 0, none⟩ = some v ∧ (wT (wR w' (w.heap.size + 2) v (i' : Nat) cl') (w.heap.size + 3) (.slice a' all'.length c') D s).cell? ⟨w.heap.size + 2, 1, none⟩ = some (.int .i64 (i' : Nat)) ∧ (wT (wR w' (w.heap.size + 2) v (i' : Nat) cl') (w.heap.size + 3) (.slice a' all'.length c') D s).cell? ⟨w.heap.size + 2, 2, none⟩ = some (.int .i64 cl') ∧ (wT (wR w' (w.heap.size + 2) v (i' : Nat) cl') (w.heap.size + 3) (.slice a' all'.length c') D s).cell? ⟨w.heap.size + 3, 0, none⟩ = some (.slice a' all'.length c') ∧ (wT (wR w' (w.heap.size + 2) v (i' : Nat) cl') (w.heap.size + 3) (.slice a' all'.length c') D s).cell? ⟨w.heap.size + 3, 1, none⟩ = some (.int .i64 D) ∧ (wT (wR w' (w.heap.size + 2) v (i' : Nat) cl') (w.heap.size + 3) (.slice a' all'.length c') D s).cell? ⟨w.heap.size + 3, 2, none⟩ = some (.int .i64 s) ∧ (wT (wR w' (w.heap.size + 2) v (i' : Nat) cl') (w.heap.size + 3) (.slice a' all'.length c') D s).cell? ⟨w.heap.size + 3, 3, none⟩ = some (.int .i64 100000)) ∧
    ToldPost v D s B a0 Rel (.returned (.tuple #[.agg #[v, .int .i64 (i' : Nat), .int .i64 cl'], .agg #[.slice a' all'.length c', .int .i64 D, .int .i64 s, .int .i64 100000]])) w (wT (wR w' (w.heap.size + 2) v (i' : Nat) cl') (w.heap.size + 3) (.slice a' all'.length c') D s) := by
  have hl := h.sm.lt
  have hS := h.told ho hg hf v (i' : Nat) cl'
  have hsm := h.sm.grown hg (fun k e => h.out k e)
  have hfar : ∀ g, blk a' = some g → blk a0 = some g ∨ w.heap.size + 4 ≤ g := hS.far
  have hout : ∀ k, blk a' = some k → k < w.heap.size ∨ w.heap.size + 4 ≤ k := hS.out
  have hgr : w.grownBy w' (blk a0) := grownBy_row h.gr hg (fun g e => by
    rcases h.far g e with h1 | h1
    · exact .inl h1
    · exact .inr (by omega))
  have hl' := hsm.lt
  have hx := hsm.x.set v (i' : Nat) cl'
  have g1 := wR_grown w' (w.heap.size + 2) v (i' : Nat) cl'
  have g2 := wT_grown (wR w' (w.heap.size + 2) v (i' : Nat) cl') (w.heap.size + 3) (.slice a' all'.length c') D s
  have hz : (w.heap.size + 2) < (wR w' (w.heap.size + 2) v (i' : Nat) cl').heap.size := Nat.lt_of_lt_of_le (by omega) g1.size
  obtain ⟨k0, k1, k2, _⟩ := hx.1
  have c3 : ∀ o, (wR w' (w.heap.size + 2) v (i' : Nat) cl').cell? ⟨w.heap.size + 3, o, none⟩ = w'.cell? ⟨w.heap.size + 3, o, none⟩ := fun o => grown_cell g1 (by omega) (by omega) o
  obtain ⟨a0', a1, a2, a3, _⟩ := wT_cells ((c3 0).trans hsm.y0) ((c3 1).trans hsm.y1) ((c3 2).trans hsm.y2) ((c3 3).trans hsm.y3) (.slice a' all'.length c') D s
  refine ⟨⟨(grown_cell g2 hz (by omega) 0).trans k0, (grown_cell g2 hz (by omega) 1).trans k1, (grown_cell g2 hz (by omega) 2).trans k2, a0', a1, a2, a3⟩, i', cl', a', c', all', rfl, ?_, ?_, fun g e => ?_, hrel⟩
  · exact (ho.grown g1 (fun k e e2 => by simp at e; have := hout k e2; omega)).grown g2 (fun k e e2 => by simp at e; have := hout k e2; omega)
  · exact grownBy_row (grownBy_row hgr g1 (fun g e => by simp at e; exact .inr (by omega))) g2 (fun g e => by simp at e; exact .inr (by omega))
  · rcases hfar g e with h1 | h1
    · exact .inl h1
    · exact .inr (by omega)
set_option maxRecDepth 100000 in
set_option maxHeartbeats 25600000 in
theorem l5Copy_any (ao : Option Addr) (Z cap : Nat) (zs : List Int) (hZ : zs.length = Z) (i : Nat) (a : Option Addr) (c : Nat) (all : List Int) (D s S : Nat) (ls ds : List Int) (b : Bool) (k : Int) (cf : IC) (co : Option Addr) (nc cc : Nat) (B : Nat) (w : World) (hr : Row w ao zs) (hz : Octets zs) (hzl : zs.length ≤ 65536) (ho : OwnsB 5 B w a c all) (hB : B ≤ w.heap.size) (hS0 : 256 < S) (hS1 : S ≤ 285) (hs : s ≤ 32768) (hDs : D ≤ 32768) (hcd : okC ds = true ∧ nc = ds.length ∧ Reads w co ds.length (code ds)) (hA : IAt s zs D k cf 13 (fun c => InUse ls ds b c ∧ c.base = (lenR S).1 ∧ c.extra = (lenR S).2) (i, 0) all) :
    Calls Tryz.prog 41 #[.agg #[.slice ao Z cap, .int .i64 (i : Nat), .int .i64 0], .agg #[.slice a all.length c, .int .i64 (D : Nat), .int .i64 (s : Nat), .int .i64 100000], .int .i64 (S : Nat), .slice co nc cc] w fun e w' => ToldPost (.slice ao Z cap) (D : Nat) (s : Nat) B a (fun r' all' => IAt s zs D k cf 12 (InUse ls ds b) r' all' ∧ i ≤ r'.1) e w w' := by
  obtain ⟨u0, hu, hu0, hu1, hu2⟩ := info_parts Tryz.info_u8s
  have HTK : Hid (∀ W i n cl, Below w.heap.size w W → i ≤ 8 * Z → n ≤ 32 → Calls Tryz.prog 21 #[.agg #[.slice ao Z cap, .int .i64 (i : Nat), .int .i64 cl], .int .i64 (n : Nat)] W fun e w' => e = .returned (.tuple #[.agg #[.slice ao Z cap, .int .i64 ((tk zs (i, cl) n).1.1 : Nat), .int .i64 (tk zs (i, cl) n).1.2], .int .i64 ((tk zs (i, cl) n).2 : Nat)]) ∧ Below W.heap.size W w') := fun W i n cl hW hi hn => by subst hZ; exact l5Take_any ao cap zs i n cl W (hr.below hW) hz hzl hi hn
  have HSY : Hid (∀ W i cl, Below w.heap.size w W → i ≤ 8 * Z → Calls Tryz.prog 38 #[.agg #[.slice ao Z cap, .int .i64 (i : Nat), .int .i64 cl], .slice co nc cc] W fun e w' => e = .returned (.tuple #[.agg #[.slice ao Z cap, .int .i64 ((sy zs (i, cl) ds).1.1 : Nat), .int .i64 (sy zs (i, cl) ds).1.2], .int .i64 ((sy zs (i, cl) ds).2 : Nat)]) ∧ Below W.heap.size W w') := fun W i cl hW hi => by subst hZ; exact l5Sym_any ao cap zs i cl ds co nc cc W (hr.below hW) hz hzl hi (fun _ => ⟨hcd.1, hcd.2.1, Reads.belowL hcd.2.2 hW⟩)
  have HTL : Hid (∀ W i a c all da dc data, OwnsB 5 B W a c all → B ≤ W.heap.size → Row W da data → (da = none → data.length = 0 ∧ dc = 0) → D ≤ all.length → all.length ≤ 200000 → data.length ≤ 1000 → Calls Tryz.prog 34 #[.agg #[.slice ao Z cap, .int .i64 (i : Nat), .int .i64 0], .agg #[.slice a all.length c, .int .i64 (D : Nat), .int .i64 (s : Nat), .int .i64 100000], .slice da data.length dc] W fun e w' => ToldPost (.slice ao Z cap) (D : Nat) (s : Nat) B a (fun r' all' => (r', all') = tlP D (i, 0) all data) e W w') := fun W i a c all da dc data h1 h2 h3 h4 h5 h6 h7 => l5Tell_any ao Z cap i 0 a c all D s da dc data B W h1 h2 h3 h4 h5 h6 h7
  have HLN := hideM (fun W => l5Length_any S (by omega) hS1 W)
  have hlr := lenR_le S (by omega) hS1
  obtain ⟨N0, hN0⟩ : ∃ N, (lenR S).1 = N := ⟨_, rfl⟩
  obtain ⟨E0, hE0⟩ : ∃ N, (lenR S).2 = N := ⟨_, rfl⟩
  rw [hN0, hE0] at hlr hA HLN
  have hiz : i ≤ 8 * Z := by have := hA.le; dsimp only at this; omega
  have hln := hA.len
  have HD := hideM hDs
  have S := hideM (si_new w a B (.slice ao Z cap) (i : Nat) 0 c all (D : Nat) (s : Nat) 33 35 ho)
  have L := hideM (w4_below w (.slice ao Z cap) (i : Nat) 0 (.slice a all.length c) (D : Nat) (s : Nat) 33 35)
  have HZ := w4_size w (.slice ao Z cap) (i : Nat) 0 (.slice a all.length c) (D : Nat) (s : Nat) 33 35
  have A0 := hideM hA
  have HZL := hideM hZ
  have Hzl := hideM hzl
  obtain ⟨i1, c1, x, hT⟩ : ∃ (xi : Nat) (xc : Int) (xF : Nat), tk zs (i, 0) E0 = ((xi, xc), xF) := ⟨_, _, _, rfl⟩
  obtain ⟨hii, hA1⟩ := at_clen hzl (fun c c' h1 h2 h3 h => ⟨h1.trans h.1, h2.trans h.2.1, h3.trans h.2.2⟩) hA hT
  have hx : x < 2 ^ E0 := by
    have := itk_lt zs (i, 0) E0
    rw [hT] at this
    exact this
  have hx2 : 2 ^ E0 ≤ 32 := Nat.pow_le_pow_right (n := 2) (by decide) hlr.2.2
  obtain ⟨n, hn⟩ : ∃ n, N0 + x = n := ⟨_, rfl⟩
  have hn3 : 3 ≤ n ∧ n ≤ 258 := by omega
  rw [hn] at hA1
  have hi1 : i1 ≤ 8 * Z := by have := hA1.le; dsimp only at this; omega
  obtain ⟨i2, c2, d, hY⟩ : ∃ (xi : Nat) (xc : Int) (xF : Nat), sy zs (i1, c1) ds = ((xi, xc), xF) := ⟨_, _, _, rfl⟩
  obtain ⟨i3, c3, hQ⟩ : ∃ (xi : Nat) (xc : Int), bdP (i2, c2) (decide ((d : Int) > 29)) = (xi, xc) := ⟨_, _, rfl⟩
  obtain ⟨hi12, hi2z, hi32, hd29, hA2⟩ := at_cdist hzl hA1 hY hQ
  have hi2 : i2 ≤ 8 * Z := by omega
  have hi3 : i3 ≤ 8 * Z := by omega
  have hii3 : i ≤ i3 := by omega
  clear hi32
  have A2 := hideM hA2
  have HT1 := hideM hT
  have HY1 := hideM hY
  have HQ1 := hideM hQ
  have Hd29 := hideM hd29
  have hni : (N0 : Int) + (x : Int) = (n : Int) := by omega
  have hx32 : x < 32 := by omega
  clear hr hz ho hcd hA hA1 hA2 hT hY hQ hd29 hZ hzl hx hx2 hN0 hE0 hDs
  go_enter Tryz.func41, Tryz.ntmps41
  go_upto_region 3 with fail
  rw [w4_eq]
  generalize w4 w (.slice ao Z cap) (i : Nat) 0 (.slice a all.length c) (D : Nat) (s : Nat) 33 35 = W at *
  go_wp2_with fail
  refine Calls.mono (HLN.out _) ?_
  rintro e w0 ⟨rfl, rfl⟩
  go_upto_region 4 with fail
  obtain ⟨⟨b0, b1, b2, bf⟩, t0, t1, t2, t3, ⟨x0, x1, x2, xf⟩, y0, y1, y2, y3, tf, yf⟩ := S.out.sm
  have zz := S.out.sm.lt
  clear bf t0 t1 t2 t3 x0 x1 x2 xf y0 y1 y2 y3 tf yf
  go_wp2_with fail
  clear b0 b1 b2 zz
  refine Calls.mono (HTK.out _ i E0 0 L.out hiz (by omega)) ?_
  rintro e w1 ⟨rfl, hb⟩
  rw [HT1.out]
  dsimp only
  have S' := hideM (S.out.below hb)
  have L' := hideM (L.out.trans (hb.mono L.out.size))
  clear hb S L
  have S := hideM (S'.out.setR (.slice ao Z cap) ((i1 : Nat) : Int) c1)
  have L := hideM (L'.out.grown (wR_grown _ w.heap.size (.slice ao Z cap) ((i1 : Nat) : Int) c1) (by have := S'.out.sm.lt; omega) (by intro k e; simp at e; omega))
  unfold wR at S L
  obtain ⟨⟨b0, b1, b2, bf⟩, t0, t1, t2, t3, ⟨x0, x1, x2, xf⟩, y0, y1, y2, y3, tf, yf⟩ := S'.out.sm
  have zz := S'.out.sm.lt
  have bf0 := bf 0
  have bf1 := bf 1
  have bf2 := bf 2
  clear bf t0 t1 t2 t3 x0 x1 x2 xf y0 y1 y2 y3 tf yf
  go_upto_region 5 with fail
  clear b0 b1 b2 bf0 bf1 bf2 zz S' L'
  generalize ((w1.setCell ⟨w.heap.size, 0, none⟩ (.slice ao Z cap)).setCell ⟨w.heap.size, 1, none⟩ (.int .i64 ((i1 : Nat) : Int))).setCell ⟨w.heap.size, 2, none⟩ (.int .i64 c1) = W at *
  go_upto_region 6 with fail
  obtain ⟨⟨b0, b1, b2, bf⟩, t0, t1, t2, t3, ⟨x0, x1, x2, xf⟩, y0, y1, y2, y3, tf, yf⟩ := S.out.sm
  have zz := S.out.sm.lt
  clear bf t0 t1 t2 t3 x0 x1 x2 xf y0 y1 y2 y3 tf yf
  go_wp2_with fail
  clear b0 b1 b2 zz
  refine Calls.mono (HSY.out _ i1 c1 L.out hi1) ?_
  rintro e w1 ⟨rfl, hb⟩
  rw [HY1.out]
  dsimp only
  have S' := hideM (S.out.below hb)
  have L' := hideM (L.out.trans (hb.mono L.out.size))
  clear hb S L
  have S := hideM (S'.out.setR (.slice ao Z cap) ((i2 : Nat) : Int) c2)
  have L := hideM (L'.out.grown (wR_grown _ w.heap.size (.slice ao Z cap) ((i2 : Nat) : Int) c2) (by have := S'.out.sm.lt; omega) (by intro k e; simp at e; omega))
  unfold wR at S L
  obtain ⟨⟨b0, b1, b2, bf⟩, t0, t1, t2, t3, ⟨x0, x1, x2, xf⟩, y0, y1, y2, y3, tf, yf⟩ := S'.out.sm
  have zz := S'.out.sm.lt
  have bf0 := bf 0
  have bf1 := bf 1
  have bf2 := bf 2
  clear bf t0 t1 t2 t3 x0 x1 x2 xf y0 y1 y2 y3 tf yf
  go_upto_region 7 with fail
  clear b0 b1 b2 bf0 bf1 bf2 zz S' L'
  generalize ((w1.setCell ⟨w.heap.size, 0, none⟩ (.slice ao Z cap)).setCell ⟨w.heap.size, 1, none⟩ (.int .i64 ((i2 : Nat) : Int))).setCell ⟨w.heap.size, 2, none⟩ (.int .i64 c2) = W at *
  obtain ⟨⟨b0, b1, b2, bf⟩, t0, t1, t2, t3, ⟨x0, x1, x2, xf⟩, y0, y1, y2, y3, tf, yf⟩ := S.out.sm
  have zz := S.out.sm.lt
  clear bf t0 t1 t2 t3 x0 x1 x2 xf y0 y1 y2 y3 tf yf
  go_wp2_with fail
  clear b0 b1 b2 zz
  refine Calls.mono (l5Bad_any ao Z cap i2 c2 (decide ((d : Int) > 29)) _) ?_
  rintro e w1 ⟨rfl, hb⟩
  rw [HQ1.out]
  dsimp only
  have S' := hideM (S.out.below hb)
  have L' := hideM (L.out.trans (hb.mono L.out.size))
  clear hb S L
  have S := hideM (S'.out.setR (.slice ao Z cap) ((i3 : Nat) : Int) c3)
  have L := hideM (L'.out.grown (wR_grown _ w.heap.size (.slice ao Z cap) ((i3 : Nat) : Int) c3) (by have := S'.out.sm.lt; omega) (by intro k e; simp at e; omega))
  unfold wR at S L
  obtain ⟨⟨b0, b1, b2, bf⟩, t0, t1, t2, t3, ⟨x0, x1, x2, xf⟩, y0, y1, y2, y3, tf, yf⟩ := S'.out.sm
  have zz := S'.out.sm.lt
  have bf0 := bf 0
  have bf1 := bf 1
  have bf2 := bf 2
  clear bf t0 t1 t2 t3 x0 x1 x2 xf y0 y1 y2 y3 tf yf
  go_upto_region 8 with fail
  clear b0 b1 b2 bf0 bf1 bf2 zz S' L'
  generalize ((w1.setCell ⟨w.heap.size, 0, none⟩ (.slice ao Z cap)).setCell ⟨w.heap.size, 1, none⟩ (.int .i64 ((i3 : Nat) : Int))).setCell ⟨w.heap.size, 2, none⟩ (.int .i64 c3) = W at *
  by_cases hc3 : c3 = 0
  · subst hc3
    have hd := Hd29.out rfl
    have HDI := hideM (fun W => l5Dist_any d hd W)
    have hdr := distR_le d hd
    have A3 := A2
    obtain ⟨N1, hN1⟩ : ∃ N, (distR d).1 = N := ⟨_, rfl⟩
    obtain ⟨E1, hE1⟩ : ∃ N, (distR d).2 = N := ⟨_, rfl⟩
    rw [hN1, hE1] at hdr A3 HDI
    obtain ⟨i4, c4, y, hT⟩ : ∃ (xi : Nat) (xc : Int) (xF : Nat), tk zs (i3, 0) E1 = ((xi, xc), xF) := ⟨_, _, _, rfl⟩
    have hy : y < 2 ^ E1 := by
      have := itk_lt zs (i3, 0) E1
      rw [hT] at this
      exact this
    obtain ⟨dist, hdist⟩ : ∃ n, N1 + y = n := ⟨_, rfl⟩
    have hdi : (N1 : Int) + (y : Int) = (dist : Int) := by omega
    have hd1 : 1 ≤ dist ∧ dist ≤ 32768 := by omega
    have hy13 : y < 8192 := Nat.lt_of_lt_of_le hy (Nat.pow_le_pow_right (n := 2) (by decide) hdr.2.2)
    obtain ⟨i5, c5, hQ⟩ : ∃ (xi : Nat) (xc : Int), bdP (i4, c4) (decide (all.length < N1 + y ∨ s < N1 + y)) = (xi, xc) := ⟨_, _, rfl⟩
    obtain ⟨i6, c6, all6, hTL⟩ : ∃ (xi : Nat) (xc : Int) (xA : List Int), tlP D (i5, c5) all (dataN all (N1 + y) n) = ((xi, xc), xA) := ⟨_, _, _, rfl⟩
    obtain ⟨hi34, hi4z, hi54, hok5, hi65, hA4⟩ := at_copy Hzl.out A3.out hT hQ hTL
    rw [hdist] at hQ hTL hok5
    have hi4 : i4 ≤ 8 * Z := by rw [← HZL.out]; exact hi4z
    have A4 : Hid (IAt s zs D k cf 12 (InUse ls ds b) (i6, c6) all6 ∧ i ≤ i6) := ⟨hA4, by omega⟩
    clear hi54 hi65
    have HT1 := hideM hT
    have HTL1 := hideM hTL
    have Hok5 := hideM hok5
    have HQ0 := hideM hQ
    clear hQ hA4 hT hTL hok5 hN1 hE1 hdist hy A2 A3 Hd29
    obtain ⟨⟨b0, b1, b2, bf⟩, t0, t1, t2, t3, ⟨x0, x1, x2, xf⟩, y0, y1, y2, y3, tf, yf⟩ := S.out.sm
    have zz := S.out.sm.lt
    clear bf t0 t1 t2 t3 x0 x1 x2 xf y0 y1 y2 y3 tf yf
    go_wp2_with fail
    refine Calls.mono (HDI.out _) ?_
    rintro e w0 ⟨rfl, rfl⟩
    go_upto_region 11 with fail
    clear b0 b1 b2 zz
    obtain ⟨⟨b0, b1, b2, bf⟩, t0, t1, t2, t3, ⟨x0, x1, x2, xf⟩, y0, y1, y2, y3, tf, yf⟩ := S.out.sm
    have zz := S.out.sm.lt
    clear bf t0 t1 t2 t3 x0 x1 x2 xf y0 y1 y2 y3 tf yf
    go_wp2_with fail
    clear b0 b1 b2 zz
    refine Calls.mono (HTK.out _ i3 E1 0 L.out hi3 (by omega)) ?_
    rintro e w1 ⟨rfl, hb⟩
    rw [HT1.out]
    dsimp only
    have S' := hideM (S.out.below hb)
    have L' := hideM (L.out.trans (hb.mono L.out.size))
    clear hb S L
    have S := hideM (S'.out.setR (.slice ao Z cap) ((i4 : Nat) : Int) c4)
    have L := hideM (L'.out.grown (wR_grown _ w.heap.size (.slice ao Z cap) ((i4 : Nat) : Int) c4) (by have := S'.out.sm.lt; omega) (by intro k e; simp at e; omega))
    unfold wR at S L
    obtain ⟨⟨b0, b1, b2, bf⟩, t0, t1, t2, t3, ⟨x0, x1, x2, xf⟩, y0, y1, y2, y3, tf, yf⟩ := S'.out.sm
    have zz := S'.out.sm.lt
    have bf0 := bf 0
    have bf1 := bf 1
    have bf2 := bf 2
    clear bf t0 t1 t2 t3 x0 x1 x2 xf y0 y1 y2 y3 tf yf
    go_upto_region 12 with fail
    clear b0 b1 b2 bf0 bf1 bf2 zz S' L'
    generalize ((w1.setCell ⟨w.heap.size, 0, none⟩ (.slice ao Z cap)).setCell ⟨w.heap.size, 1, none⟩ (.int .i64 ((i4 : Nat) : Int))).setCell ⟨w.heap.size, 2, none⟩ (.int .i64 c4) = W at *
    go_upto_region 13 with fail
    have hQ := HQ0.out
    clear HQ0
    by_cases g1 : all.length < dist
    · have hg1 : decide ((dist : Int) > (all.length : Int)) = true := decide_eq_true (by omega)
      rw [decide_eq_true (show all.length < dist ∨ s < dist from .inl g1)] at hQ
      have HQ1 := hideM hQ
      have hc5 : c5 ≠ 0 := ibdP_true hQ
      clear hQ
      obtain ⟨⟨b0, b1, b2, bf⟩, t0, t1, t2, t3, ⟨x0, x1, x2, xf⟩, y0, y1, y2, y3, tf, yf⟩ := S.out.sm
      have zz := S.out.sm.lt
      clear bf x0 x1 x2 xf y0 y1 y2 y3 tf yf
      go_wp2_with fail
      clear b0 b1 b2 zz t0 t1 t2 t3
      refine Calls.mono (l5Bad_any ao Z cap i4 c4 true _) ?_
      rintro e w1 ⟨rfl, hb⟩
      rw [HQ1.out]
      dsimp only
      have S' := hideM (S.out.below hb)
      have L' := hideM (L.out.trans (hb.mono L.out.size))
      clear hb S L
      have S := hideM (S'.out.setR (.slice ao Z cap) ((i5 : Nat) : Int) c5)
      have L := hideM (L'.out.grown (wR_grown _ w.heap.size (.slice ao Z cap) ((i5 : Nat) : Int) c5) (by have := S'.out.sm.lt; omega) (by intro k e; simp at e; omega))
      unfold wR at S L
      obtain ⟨⟨b0, b1, b2, bf⟩, t0, t1, t2, t3, ⟨x0, x1, x2, xf⟩, y0, y1, y2, y3, tf, yf⟩ := S'.out.sm
      have zz := S'.out.sm.lt
      have bf0 := bf 0
      have bf1 := bf 1
      have bf2 := bf 2
      clear bf t0 t1 t2 t3 x0 x1 x2 xf y0 y1 y2 y3 tf yf
      go_upto_region 14 with fail
      clear b0 b1 b2 bf0 bf1 bf2 zz S' L'
      generalize ((w1.setCell ⟨w.heap.size, 0, none⟩ (.slice ao Z cap)).setCell ⟨w.heap.size, 1, none⟩ (.int .i64 ((i5 : Nat) : Int))).setCell ⟨w.heap.size, 2, none⟩ (.int .i64 c5) = W at *
      have hc5b : (c5 != 0) = true := by simp [hc5]
      have HF : Hid (IAt s zs D k cf 12 (InUse ls ds b) (i5, c5) all ∧ i ≤ i5) := by
        have h1 := HTL1.out
        unfold tlP at h1
        rw [if_neg hc5] at h1
        injection h1 with h1 h2
        injection h1 with h1 h3
        subst h1; subst h2; subst h3
        exact A4.out
      clear hc5
      obtain ⟨⟨b0, b1, b2, bf⟩, t0, t1, t2, t3, ⟨x0, x1, x2, xf⟩, y0, y1, y2, y3, tf, yf⟩ := S.out.sm
      have zz := S.out.sm.lt
      clear bf t0 t1 t2 t3 x0 x1 x2 xf y0 y1 y2 y3 tf yf
      go_upto_region 15 with fail
      clear b0 b1 b2 zz
      obtain ⟨⟨b0, b1, b2, bf⟩, t0, t1, t2, t3, ⟨x0, x1, x2, xf⟩, y0, y1, y2, y3, tf, yf⟩ := S.out.sm
      have zz := S.out.sm.lt
      have xf0 := xf 0
      have xf1 := xf 1
      have xf2 := xf 2
      have yf0 := yf 0
      have yf1 := yf 1
      have yf2 := yf 2
      have yf3 := yf 3
      clear bf xf tf yf
      have DN := hideM (fun W hW => S.out.post (Rel := fun r' all' => IAt s zs D k cf 12 (InUse ls ds b) r' all' ∧ i ≤ r'.1) HF.out W hW)
      clear S
      go_region
      go_wp2_with fail
      have DN1 := DN.out _ (.inl rfl)
      unfold wT wR at DN1
      obtain ⟨⟨k0, k1, k2, k3, k4, k5, k6⟩, P1, P2⟩ := DN1
      exact bodyPost_ret (v := .tuple #[.agg #[.slice ao Z cap, .int .i64 ((i5 : Nat) : Int), .int .i64 c5], .agg #[.slice a (List.length all) c, .int .i64 (D : Nat), .int .i64 (s : Nat), .int .i64 100000]]) (by simp [results, Tryz.results41, go_sem, k0, k1, k2, k3, k4, k5, k6]) rfl (by first | exact P1 | exact P2)
    · have hg1 : decide ((dist : Int) > (all.length : Int)) = false := decide_eq_false (by omega)
      by_cases g2 : s < dist
      · have hg2 : decide ((dist : Int) > (s : Int)) = true := decide_eq_true (by omega)
        rw [decide_eq_true (show all.length < dist ∨ s < dist from .inr g2)] at hQ
        have HQ1 := hideM hQ
        have hc5 : c5 ≠ 0 := ibdP_true hQ
        clear hQ
        obtain ⟨⟨b0, b1, b2, bf⟩, t0, t1, t2, t3, ⟨x0, x1, x2, xf⟩, y0, y1, y2, y3, tf, yf⟩ := S.out.sm
        have zz := S.out.sm.lt
        clear bf x0 x1 x2 xf y0 y1 y2 y3 tf yf
        go_wp2_with fail
        clear b0 b1 b2 zz t0 t1 t2 t3
        refine Calls.mono (l5Bad_any ao Z cap i4 c4 true _) ?_
        rintro e w1 ⟨rfl, hb⟩
        rw [HQ1.out]
        dsimp only
        have S' := hideM (S.out.below hb)
        have L' := hideM (L.out.trans (hb.mono L.out.size))
        clear hb S L
        have S := hideM (S'.out.setR (.slice ao Z cap) ((i5 : Nat) : Int) c5)
        have L := hideM (L'.out.grown (wR_grown _ w.heap.size (.slice ao Z cap) ((i5 : Nat) : Int) c5) (by have := S'.out.sm.lt; omega) (by intro k e; simp at e; omega))
        unfold wR at S L
        obtain ⟨⟨b0, b1, b2, bf⟩, t0, t1, t2, t3, ⟨x0, x1, x2, xf⟩, y0, y1, y2, y3, tf, yf⟩ := S'.out.sm
        have zz := S'.out.sm.lt
        have bf0 := bf 0
        have bf1 := bf 1
        have bf2 := bf 2
        clear bf t0 t1 t2 t3 x0 x1 x2 xf y0 y1 y2 y3 tf yf
        go_upto_region 14 with fail
        clear b0 b1 b2 bf0 bf1 bf2 zz S' L'
        generalize ((w1.setCell ⟨w.heap.size, 0, none⟩ (.slice ao Z cap)).setCell ⟨w.heap.size, 1, none⟩ (.int .i64 ((i5 : Nat) : Int))).setCell ⟨w.heap.size, 2, none⟩ (.int .i64 c5) = W at *
        have hc5b : (c5 != 0) = true := by simp [hc5]
        have HF : Hid (IAt s zs D k cf 12 (InUse ls ds b) (i5, c5) all ∧ i ≤ i5) := by
          have h1 := HTL1.out
          unfold tlP at h1
          rw [if_neg hc5] at h1
          injection h1 with h1 h2
          injection h1 with h1 h3
          subst h1; subst h2; subst h3
          exact A4.out
        clear hc5
        obtain ⟨⟨b0, b1, b2, bf⟩, t0, t1, t2, t3, ⟨x0, x1, x2, xf⟩, y0, y1, y2, y3, tf, yf⟩ := S.out.sm
        have zz := S.out.sm.lt
        clear bf t0 t1 t2 t3 x0 x1 x2 xf y0 y1 y2 y3 tf yf
        go_upto_region 15 with fail
        clear b0 b1 b2 zz
        obtain ⟨⟨b0, b1, b2, bf⟩, t0, t1, t2, t3, ⟨x0, x1, x2, xf⟩, y0, y1, y2, y3, tf, yf⟩ := S.out.sm
        have zz := S.out.sm.lt
        have xf0 := xf 0
        have xf1 := xf 1
        have xf2 := xf 2
        have yf0 := yf 0
        have yf1 := yf 1
        have yf2 := yf 2
        have yf3 := yf 3
        clear bf xf tf yf
        have DN := hideM (fun W hW => S.out.post (Rel := fun r' all' => IAt s zs D k cf 12 (InUse ls ds b) r' all' ∧ i ≤ r'.1) HF.out W hW)
        clear S
        go_region
        go_wp2_with fail
        have DN1 := DN.out _ (.inl rfl)
        unfold wT wR at DN1
        obtain ⟨⟨k0, k1, k2, k3, k4, k5, k6⟩, P1, P2⟩ := DN1
        exact bodyPost_ret (v := .tuple #[.agg #[.slice ao Z cap, .int .i64 ((i5 : Nat) : Int), .int .i64 c5], .agg #[.slice a (List.length all) c, .int .i64 (D : Nat), .int .i64 (s : Nat), .int .i64 100000]]) (by simp [results, Tryz.results41, go_sem, k0, k1, k2, k3, k4, k5, k6]) rfl (by first | exact P1 | exact P2)
      · have hg2 : decide ((dist : Int) > (s : Int)) = false := decide_eq_false (by omega)
        rw [decide_eq_false (show ¬ (all.length < dist ∨ s < dist) by omega)] at hQ
        have HQ1 := hideM hQ
        have hda : dist ≤ all.length := by omega
        clear hQ
        obtain ⟨⟨b0, b1, b2, bf⟩, t0, t1, t2, t3, ⟨x0, x1, x2, xf⟩, y0, y1, y2, y3, tf, yf⟩ := S.out.sm
        have zz := S.out.sm.lt
        clear bf x0 x1 x2 xf y0 y1 y2 y3 tf yf
        go_wp2_with fail
        clear b0 b1 b2 zz t0 t1 t2 t3
        refine Calls.mono (l5Bad_any ao Z cap i4 c4 false _) ?_
        rintro e w1 ⟨rfl, hb⟩
        rw [HQ1.out]
        dsimp only
        have S' := hideM (S.out.below hb)
        have L' := hideM (L.out.trans (hb.mono L.out.size))
        clear hb S L
        have S := hideM (S'.out.setR (.slice ao Z cap) ((i5 : Nat) : Int) c5)
        have L := hideM (L'.out.grown (wR_grown _ w.heap.size (.slice ao Z cap) ((i5 : Nat) : Int) c5) (by have := S'.out.sm.lt; omega) (by intro k e; simp at e; omega))
        unfold wR at S L
        obtain ⟨⟨b0, b1, b2, bf⟩, t0, t1, t2, t3, ⟨x0, x1, x2, xf⟩, y0, y1, y2, y3, tf, yf⟩ := S'.out.sm
        have zz := S'.out.sm.lt
        have bf0 := bf 0
        have bf1 := bf 1
        have bf2 := bf 2
        clear bf t0 t1 t2 t3 x0 x1 x2 xf y0 y1 y2 y3 tf yf
        go_upto_region 14 with fail
        clear b0 b1 b2 bf0 bf1 bf2 zz S' L'
        generalize ((w1.setCell ⟨w.heap.size, 0, none⟩ (.slice ao Z cap)).setCell ⟨w.heap.size, 1, none⟩ (.int .i64 ((i5 : Nat) : Int))).setCell ⟨w.heap.size, 2, none⟩ (.int .i64 c5) = W at *
        by_cases hc5 : c5 = 0
        · subst hc5
          obtain ⟨ga, oa, hae⟩ : ∃ g o, a = some ⟨g, o, none⟩ := by
            obtain ⟨g, o, e, _⟩ := S.out.own.mine.row 0 (by omega)
            exact ⟨g, o, e⟩
          subst hae
          have hga : ga < w.heap.size := by
            rcases S.out.far ga rfl with h | h
            · exact S.out.low ga h
            · have := S.out.low ga rfl
              exact this
          obtain ⟨⟨b0, b1, b2, bf⟩, t0, t1, t2, t3, ⟨x0, x1, x2, xf⟩, y0, y1, y2, y3, tf, yf⟩ := S.out.sm
          have zz := S.out.sm.lt
          clear bf x0 x1 x2 xf y0 y1 y2 y3 tf yf
          go_upto_region 17 with fail
          clear b0 b1 b2 t0 t1 t2 t3 zz
          have O0 := hideM (ownw0i W (w.heap.size + 4) 5 W.heap.size (by have := S.out.sm.lt; omega) rfl)
          have SX := hideM (S.out.below ((Below.refl W.heap.size W).alloc (Nat.le_refl _) (.cells #[] 5)))
          have LX := hideM (L.out.trans (((Below.refl W.heap.size W).alloc (Nat.le_refl _) (.cells #[] 5)).mono L.out.size))
          generalize W.alloc (.cells #[] 5) = W7 at *
          obtain ⟨g7, hg7⟩ : ∃ g, W.heap.size = g := ⟨_, rfl⟩
          rw [hg7] at O0 ⊢
          clear S L hg7
          go_wp2_with fail
          go_loopw [16, 17, 18] (fun v q _ wr => ∃ (j : Nat) (ad : Option Addr) (cd : Nat) (X : List Int), j ≤ n ∧ q = .int .i64 (j : Nat) ∧ v = .slice ad X.length cd ∧ Hid (X = dataN all dist j) ∧ Hid (X.length = j) ∧ X.length ≤ 258 ∧ Hid (OwnsB 5 (w.heap.size + 4) wr ad cd X) ∧ Hid (SI w (some ⟨ga, oa, none⟩) B wr (.slice ao Z cap) ((i5 : Nat) : Int) 0 (some ⟨ga, oa, none⟩) c all (D : Nat) (s : Nat))) (fun _ q _ _ => n - (intOf q).toNat)
          case atStart => exact ⟨0, some ⟨g7, 0, none⟩, 0, [], Nat.zero_le _, rfl, rfl, (by show _ = _; simp [dataN, copyN]), rfl, Nat.zero_le _, O0.out, SX.out⟩
          case round =>
            clear O0 SX LX
            obtain ⟨j, ad, cd, X, hj, rfl, rfl, HX, HXL, hX, HO, HS⟩ := hrel
            by_cases hjn : j < n
            · obtain ⟨m, hm⟩ : ∃ m, j % dist = m := ⟨_, rfl⟩
              have hmlt : m < dist := by rw [← hm]; exact Nat.mod_lt _ (by omega)
              have hmi : (j : Int).tmod (dist : Int) = (m : Int) := by rw [Int.tmod_eq_emod_of_nonneg (by omega), ← hm]; rfl
              obtain ⟨pp, hpp⟩ : ∃ p, all.length - dist + m = p := ⟨_, rfl⟩
              have hpi : (all.length : Int) - (dist : Int) + (m : Int) = (pp : Int) := by omega
              have hpl : pp < all.length := by omega
              have HW : Hid (wrap64 (wrap64 ((all.length : Int) - (dist : Int)) + (m : Int)) = (pp : Int)) := by
                show _ = _
                have hl := hln.2
                have hd := HD.out
                rw [show wrap64 ((all.length : Int) - (dist : Int)) = (all.length : Int) - (dist : Int) by unfold wrap64; omega, hpi]
                unfold wrap64
                omega
              clear hpi
              obtain ⟨xb, hxb⟩ : ∃ x, all.getD pp 0 = x := ⟨_, rfl⟩
              have HX2 : Hid (X ++ [xb] = dataN all dist (j + 1)) := by
                show _ = _
                rw [dataN_succ, copy_byte all dist hd1.1 hda, hm, hpp, hxb, HX.out]
              have HXB := hideM hxb
              have hww := HS.out.sm.lt
              have hdz : ¬ (dist : Int) = 0 := by omega
              have t0 := HS.out.sm.t0
              clear hm hpp hxb
              go_upto_region 20 with fail
              go_quiet (fail)
              rw [HW.out]
              have HOq := hideM (HO.out.below (below_drewN' _ wr nq))
              have HSq := hideM (HS.out.below (below_drewN' _ wr nq))
              clear t0 hww HO HS
              generalize wr.drewN nq = wq at *
              have hcell : wq.cell? ⟨ga, oa + pp, none⟩ = some (.int .u8 (all.getD pp 0)) := by
                obtain ⟨g, o, e, hcc⟩ := HSq.out.own.mine.row pp hpl
                cases e
                exact hcc
              rw [HXB.out] at hcell
              have hww := HSq.out.sm.lt
              have hgaw : ga < wq.heap.size := by omega
              have t0 := HSq.out.sm.t0
              have ba : Below wq.heap.size wq (wq.alloc (.cells #[.int .u8 xb] 5)) := (Below.refl _ _).alloc (Nat.le_refl _) _
              have HOA := hideM (HOq.out.below ba)
              have HSA := hideM (HSq.out.below ba)
              have HRA := hideM (irow_one wq xb 5)
              have hzA : (wq.alloc (.cells #[.int .u8 xb] 5)).heap.size = wq.heap.size + 1 := by simp
              have HBS := hideM (OwnsB.based HOq.out)
              clear ba HOq HSq HXB HW
              go_wp2_with (at_builtin; refine wpList_append_row _ rfl _ _ 22 rfl (w.heap.size + 4) 5 u0 (.int .u8 0) 1 Tryz.underlying22 hu hu0 hu1 hu2 rfl (.slice ad X.length cd) X.length (X.map (Value.int .u8)) rfl HOA.out (some ⟨wq.heap.size, 0, none⟩) 1 [xb] rfl HRA.out (fun e => by cases e) (by unfold maxLen; simp; omega) (by simp; omega) (by omega) ?_)
              intro v' w2 hown hgrow hat
              rw [show List.map (Value.int .u8) X ++ [Value.int .u8 xb] = (X ++ [xb]).map (Value.int .u8) by simp] at hown
              obtain ⟨a', c', e', ho'⟩ := OwnsB.of hown
              subst e'
              have hown2 : (Value.slice ad X.length cd).ownBlock = blk ad := by cases ad <;> rfl
              rw [hown2] at hgrow
              have S2 := hideM (HSA.out.farther hgrow (fun k e => HBS.out k e) (fun k e e2 => by have := HBS.out k e; simp [blk] at e2; omega))
              have O2 := hideM ho'
              have hXl : (X ++ [xb]).length = j + 1 := by rw [List.length_append, HXL.out]; rfl
              have HXL2 := hideM hXl
              have hX2 : (X ++ [xb]).length ≤ 258 := by omega
              generalize X ++ [xb] = X2 at *
              clear hown hgrow hat hown2 ho' HOA HSA HRA HBS HX HXL t0 hcell hzA hXl
              go_wp2_with fail
              exact ⟨⟨j + 1, a', c', X2, by omega, by go_num, rfl, HX2, HXL2, hX2, O2, S2⟩, by simp [intOf]; omega⟩
            · have hjn2 : j = n := by omega
              subst hjn2
              have TLC := hideM (HTL.out wr i5 (some ⟨ga, oa, none⟩) c all ad cd X HS.out.own (by have := HS.out.sm.lt; omega) HO.out.mine.row HO.out.bare hln.1 (by have := HD.out; omega) (by omega))
              have HXX : Hid (tlP D (i5, 0) all X = ((i6, c6), all6)) := by show _ = _; rw [HX.out]; exact HTL1.out
              obtain ⟨⟨b0, b1, b2, bf⟩, t0, t1, t2, t3, ⟨x0, x1, x2, xf⟩, y0, y1, y2, y3, tf, yf⟩ := HS.out.sm
              have zz := HS.out.sm.lt
              clear bf x0 x1 x2 xf y0 y1 y2 y3 tf yf HX HTL1 HO
              go_wp2_with fail
              refine Calls.mono TLC.out ?_
              rintro e w3 ⟨ir, cr, ar, cc', allr, rfl, hor, hgr, hfr, hrl⟩
              have SG := hideM (HS.out.sm.grown hgr (fun k e => HS.out.out k e))
              rw [HXX.out] at hrl
              injection hrl with h1 h2
              injection h1 with h1 h3
              subst h1; subst h2; subst h3
              have FIN := hideM (HS.out.relay (Rel := fun r' all' => IAt s zs D k cf 12 (InUse ls ds b) r' all' ∧ i ≤ r'.1) hor hgr hfr A4.out)
              clear b0 b1 b2 t0 t1 t2 t3 zz hor hgr hfr TLC HS
              obtain ⟨_, _, _, _, _, ⟨x0, x1, x2, xf⟩, y0, y1, y2, y3, tf, yf⟩ := SG.out
              have zz := SG.out.lt
              have xf0 := xf 0
              have xf1 := xf 1
              have xf2 := xf 2
              have yf0 := yf 0
              have yf1 := yf 1
              have yf2 := yf 2
              have yf3 := yf 3
              clear xf tf yf SG
              unfold wT wR at FIN
              go_wp2_with fail
              obtain ⟨⟨k0, k1, k2, k3, k4, k5, k6⟩, P1⟩ := FIN.out
              exact bodyPost_ret (v := .tuple #[.agg #[.slice ao Z cap, .int .i64 ((ir : Nat) : Int), .int .i64 cr], .agg #[.slice ar (List.length allr) cc', .int .i64 (D : Nat), .int .i64 (s : Nat), .int .i64 100000]]) (by simp [results, Tryz.results41, go_sem, k0, k1, k2, k3, k4, k5, k6]) rfl P1
        · have hc5b : (c5 != 0) = true := by simp [hc5]
          have HF : Hid (IAt s zs D k cf 12 (InUse ls ds b) (i5, c5) all ∧ i ≤ i5) := by
            have h1 := HTL1.out
            unfold tlP at h1
            rw [if_neg hc5] at h1
            injection h1 with h1 h2
            injection h1 with h1 h3
            subst h1; subst h2; subst h3
            exact A4.out
          clear hc5
          obtain ⟨⟨b0, b1, b2, bf⟩, t0, t1, t2, t3, ⟨x0, x1, x2, xf⟩, y0, y1, y2, y3, tf, yf⟩ := S.out.sm
          have zz := S.out.sm.lt
          clear bf t0 t1 t2 t3 x0 x1 x2 xf y0 y1 y2 y3 tf yf
          go_upto_region 15 with fail
          clear b0 b1 b2 zz
          obtain ⟨⟨b0, b1, b2, bf⟩, t0, t1, t2, t3, ⟨x0, x1, x2, xf⟩, y0, y1, y2, y3, tf, yf⟩ := S.out.sm
          have zz := S.out.sm.lt
          have xf0 := xf 0
          have xf1 := xf 1
          have xf2 := xf 2
          have yf0 := yf 0
          have yf1 := yf 1
          have yf2 := yf 2
          have yf3 := yf 3
          clear bf xf tf yf
          have DN := hideM (fun W hW => S.out.post (Rel := fun r' all' => IAt s zs D k cf 12 (InUse ls ds b) r' all' ∧ i ≤ r'.1) HF.out W hW)
          clear S
          go_region
          go_wp2_with fail
          have DN1 := DN.out _ (.inl rfl)
          unfold wT wR at DN1
          obtain ⟨⟨k0, k1, k2, k3, k4, k5, k6⟩, P1, P2⟩ := DN1
          exact bodyPost_ret (v := .tuple #[.agg #[.slice ao Z cap, .int .i64 ((i5 : Nat) : Int), .int .i64 c5], .agg #[.slice a (List.length all) c, .int .i64 (D : Nat), .int .i64 (s : Nat), .int .i64 100000]]) (by simp [results, Tryz.results41, go_sem, k0, k1, k2, k3, k4, k5, k6]) rfl (by first | exact P1 | exact P2)
  · have hc3b : (c3 != 0) = true := by simp [hc3]
    have HF : Hid (IAt s zs D k cf 12 (InUse ls ds b) (i3, c3) all ∧ i ≤ i3) := ⟨A2.out.off hc3, hii3⟩
    clear hc3
    obtain ⟨⟨b0, b1, b2, bf⟩, t0, t1, t2, t3, ⟨x0, x1, x2, xf⟩, y0, y1, y2, y3, tf, yf⟩ := S.out.sm
    have zz := S.out.sm.lt
    clear bf t0 t1 t2 t3 x0 x1 x2 xf y0 y1 y2 y3 tf yf
    go_upto_region 9 with fail
    clear b0 b1 b2 zz
    obtain ⟨⟨b0, b1, b2, bf⟩, t0, t1, t2, t3, ⟨x0, x1, x2, xf⟩, y0, y1, y2, y3, tf, yf⟩ := S.out.sm
    have zz := S.out.sm.lt
    have xf0 := xf 0
    have xf1 := xf 1
    have xf2 := xf 2
    have yf0 := yf 0
    have yf1 := yf 1
    have yf2 := yf 2
    have yf3 := yf 3
    clear bf xf tf yf
    have DN := hideM (fun W hW => S.out.post (Rel := fun r' all' => IAt s zs D k cf 12 (InUse ls ds b) r' all' ∧ i ≤ r'.1) HF.out W hW)
    clear S
    go_region
    go_wp2_with fail
    have DN1 := DN.out _ (.inl rfl)
    unfold wT wR at DN1
    obtain ⟨⟨k0, k1, k2, k3, k4, k5, k6⟩, P1, P2⟩ := DN1
    exact bodyPost_ret (v := .tuple #[.agg #[.slice ao Z cap, .int .i64 ((i3 : Nat) : Int), .int .i64 c3], .agg #[.slice a (List.length all) c, .int .i64 (D : Nat), .int .i64 (s : Nat), .int .i64 100000]]) (by simp [results, Tryz.results41, go_sem, k0, k1, k2, k3, k4, k5, k6]) rfl (by first | exact P1 | exact P2)
end Go.Proofs.YtlfabilmilkboaaGreatDoor
