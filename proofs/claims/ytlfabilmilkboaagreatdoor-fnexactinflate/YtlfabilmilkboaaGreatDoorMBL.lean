import Derived.Test.YtlfabilmilkboaaGreatDoorMBI
namespace Go.Proofs.YtlfabilmilkboaaGreatDoor
open Go.RowKit
attribute [local go_sem ↓] Go.wp_at_zero Go.wp_at_succ
set_option linter.unusedVariables false

theorem field_high (N i n : Nat) : field N i (n + 1) = field N i n + N / 2 ^ (i + n) % 2 * 2 ^ n := by
  unfold field
  rw [Nat.pow_succ, Nat.mod_mul, Nat.div_div_eq_div_mul, ← Nat.pow_add, Nat.mul_comm (2 ^ n)]
theorem nx3_zero {ls : List Int} {b n : Nat} (h : (nx3 ls b n).1 ≠ 1) : (nx3 ls b n).2.1 = 0 ∧ (nx3 ls b n).2.2 = 0 := by
  have h2 := nx3_is ls b n
  generalize nx3 ls b n = t at *
  obtain ⟨k, s, l⟩ := t
  dsimp only at *
  unfold AnsN at h2
  split at h2
  · rcases h2 with ⟨i, _, _, h3, _⟩ | ⟨i, _, _, _, h3, h4⟩ | ⟨_, _, h3, h4⟩
    · exact absurd h3 h
    · exact ⟨h3, h4⟩
    · exact ⟨h3, h4⟩
  · exact ⟨h2.2.1, h2.2.2⟩
theorem nx3_len {ls : List Int} {b n : Nat} : (nx3 ls b n).2.2 ≤ n := by
  by_cases h : (nx3 ls b n).1 = 1
  · exact (nx3_sym h).2
  · rw [(nx3_zero h).2]; exact Nat.zero_le _
theorem Reads.belowL {w w' : World} {ao : Option Addr} {n : Nat} {F : Nat → Nat × Nat} (h : Reads w ao n F) (hb : Below w.heap.size w w') : Reads w' ao n F := fun h0 => by
  obtain ⟨g, h1, h2⟩ := h h0
  exact ⟨g, h1, h2.grown (grownBy_of_below hb none) (by simp)⟩
theorem sh_ok (f1 bt k : Nat) (hf : f1 < 32768) (hb : bt < 2) (hk : k < 15) : IntKind.u64.wrap ((f1 : Int) + IntKind.u64.wrap ((bt : Int) * 2 ^ k)) = ((f1 + bt * 2 ^ k : Nat) : Int) := by
  have hp : 2 ^ k ≤ 16384 := (Nat.pow_le_pow_right (n := 2) (by decide) (show k ≤ 14 by omega) : 2 ^ k ≤ 2 ^ 14)
  rw [pow_int]
  generalize 2 ^ k = P at *
  rcases (show bt = 0 ∨ bt = 1 from by omega) with rfl | rfl
  · simp only [IntKind.wrap_u64]; omega
  · simp only [IntKind.wrap_u64]; omega
/-- A place in bits, in memory. -/
def L5m (w : World) (p : Nat) (v : Value) (i cl : Int) : Prop := w.cell? ⟨p, 0, none⟩ = some v ∧ w.cell? ⟨p, 1, none⟩ = some (.int .i64 i) ∧ w.cell? ⟨p, 2, none⟩ = some (.int .i64 cl) ∧ ∀ o, w.frozen? ⟨p, o, none⟩ = false
theorem L5m.lt {w : World} {p : Nat} {v : Value} {i cl : Int} (h : L5m w p v i cl) : p < w.heap.size := World.block_lt_of_cell? w _ h.1
theorem L5m.grown {w w' : World} {row : Option Nat} {p : Nat} {v : Value} {i cl : Int} (h : L5m w p v i cl) (hg : w.grownBy w' row) (hne : some p ≠ row) : L5m w' p v i cl := by
  have e := hg.block p h.lt hne
  obtain ⟨h0, h1, h2, h3⟩ := h
  exact ⟨(World.cell?_of_block (w := w) e).trans h0, (World.cell?_of_block (w := w) e).trans h1, (World.cell?_of_block (w := w) e).trans h2, fun o => (World.frozen?_of_block (w := w) e).trans (h3 o)⟩
theorem L5m.below {w w' : World} {p : Nat} {v : Value} {i cl : Int} (h : L5m w p v i cl) (hb : Below w.heap.size w w') : L5m w' p v i cl := h.grown (grownBy_of_below hb none) (by simp)
theorem l5m_new (w : World) (v : Value) (i cl : Int) (t : TypeId) : L5m (w.alloc (.cells #[v, .int .i64 i, .int .i64 cl] t)) w.heap.size v i cl := by
  refine ⟨?_, ?_, ?_, ?_⟩ <;> simp [go_sem]
theorem set_same {w : World} {a : Addr} {u : Value} (v : Value) (h : w.cell? a = some u) : (w.setCell a v).cell? a = some v := World.cell?_setCell_same _ _ _ h
theorem set_far {w : World} {p i j : Nat} {u : Option Value} (v : Value) (hij : i ≠ j) (h : w.cell? ⟨p, j, none⟩ = u) : (w.setCell ⟨p, i, none⟩ v).cell? ⟨p, j, none⟩ = u := by
  rw [World.cell?_setCell_other _ _ _ _ (by first | (simp; done) | (simp; omega))]; exact h
theorem L5m.set1 {w : World} {p : Nat} {v : Value} {i cl : Int} (h : L5m w p v i cl) (x : Int) : L5m (w.setCell ⟨p, 1, none⟩ (.int .i64 x)) p v x cl :=
  ⟨set_far _ (by decide) h.1, set_same _ h.2.1, set_far _ (by decide) h.2.2.1, fun o => by rw [World.frozen?_setCell]; exact h.2.2.2 o⟩
theorem L5m.set2 {w : World} {p : Nat} {v : Value} {i cl : Int} (h : L5m w p v i cl) (x : Int) : L5m (w.setCell ⟨p, 2, none⟩ (.int .i64 x)) p v i x :=
  ⟨set_far _ (by decide) h.1, set_far _ (by decide) h.2.1, set_same _ h.2.2.1, fun o => by rw [World.frozen?_setCell]; exact h.2.2.2 o⟩
/-- All three cells laid. -/
theorem L5m.set {w : World} {p : Nat} {v : Value} {i cl : Int} (h : L5m w p v i cl) (v' : Value) (i' cl' : Int) : L5m (((w.setCell ⟨p, 0, none⟩ v').setCell ⟨p, 1, none⟩ (.int .i64 i')).setCell ⟨p, 2, none⟩ (.int .i64 cl')) p v' i' cl' ∧ w.grownBy (((w.setCell ⟨p, 0, none⟩ v').setCell ⟨p, 1, none⟩ (.int .i64 i')).setCell ⟨p, 2, none⟩ (.int .i64 cl')) (some p) :=
  ⟨⟨set_far _ (by decide) (set_far _ (by decide) (set_same _ h.1)), set_far _ (by decide) (set_same _ (set_far _ (by decide) h.2.1)), set_same _ (set_far _ (by decide) (set_far _ (by decide) h.2.2.1)), fun o => by rw [World.frozen?_setCell, World.frozen?_setCell, World.frozen?_setCell]; exact h.2.2.2 o⟩,
    grownBy_trans (grownBy_trans (grownBy_setCell w ⟨p, 0, none⟩ _) (grownBy_setCell _ ⟨p, 1, none⟩ _)) (grownBy_setCell _ ⟨p, 2, none⟩ _)⟩
set_option maxRecDepth 100000 in
set_option maxHeartbeats 6400000 in
theorem l5Sym_any (ao : Option Addr) (cap : Nat) (zs : List Int) (i : Nat) (cl : Int) (tb : List Int) (co : Option Addr) (nc cc : Nat) (w : World) (hr : Row w ao zs) (hz : Octets zs) (hzl : zs.length ≤ 65536) (hi : i ≤ 8 * zs.length)
    (hcd : cl = 0 → okC tb = true ∧ nc = tb.length ∧ Reads w co tb.length (code tb)) :
    Calls Tryz.prog 38 #[.agg #[.slice ao zs.length cap, .int .i64 (i : Nat), .int .i64 cl], .slice co nc cc] w fun e w' =>
      e = .returned (.tuple #[.agg #[.slice ao zs.length cap, .int .i64 ((sy zs (i, cl) tb).1.1 : Nat), .int .i64 (sy zs (i, cl) tb).1.2], .int .i64 ((sy zs (i, cl) tb).2 : Nat)]) ∧ Below w.heap.size w w' := by
  by_cases hc : cl = 0
  · obtain ⟨hok, rfl, hrd⟩ := hcd hc
    subst hc
    have hlk : lkn zs i ≤ 15 := Nat.min_le_right _ _
    have hlk2 : i + lkn zs i ≤ 8 * zs.length := by have : lkn zs i ≤ 8 * zs.length - i := Nat.min_le_left _ _; omega
    have hlk3 : lkn zs i < 15 → i + lkn zs i = 8 * zs.length := by
      intro h
      unfold lkn at h ⊢
      rcases Nat.le_total (8 * zs.length - i) 15 with h1 | h1
      · rw [show Nat.min (8 * zs.length - i) 15 = 8 * zs.length - i from Nat.min_eq_left h1]; omega
      · rw [show Nat.min (8 * zs.length - i) 15 = 15 from Nat.min_eq_right h1] at h; omega
    have HS : Hid (sy zs (i, 0) tb = ((i + (nx3 tb (field (bnum zs) i (lkn zs i)) (lkn zs i)).2.2, if (nx3 tb (field (bnum zs) i (lkn zs i)) (lkn zs i)).1 = 2 then 2 else if (nx3 tb (field (bnum zs) i (lkn zs i)) (lkn zs i)).1 = 0 then 3 else 0), (nx3 tb (field (bnum zs) i (lkn zs i)) (lkn zs i)).2.1)) := by
      show _ = _
      unfold sy
      rw [if_pos rfl]
    have HR : Hid (∀ k, k < lkn zs i → ∀ W, Below w.heap.size w W → Calls Tryz.prog 33 #[.slice ao zs.length cap, .int .i64 ((i : Int) + (k : Int))] W fun e w' => e = .returned (.int .u64 (bnum zs / 2 ^ (i + k) % 2 : Nat)) ∧ w' = W) := fun k hk W hW => l2Bit_any ao cap zs (i + k) W (hr.below hW) hz (by omega) (by omega)
    have HX : Hid (∀ W b n, Below w.heap.size w W → b < 2 ^ 64 → n ≤ 64 → Calls Tryz.prog 56 #[.slice co tb.length cc, .int .u64 (b : Nat), .int .i64 (n : Nat)] W fun e w' => e = .returned (.agg #[.int .i64 ((nx3 tb b n).1 : Nat), .int .i64 ((nx3 tb b n).2.1 : Nat), .int .i64 ((nx3 tb b n).2.2 : Nat)]) ∧ Below W.heap.size W w') := by
      intro W b n hW hb hn
      refine Calls.mono (l3Next_any tb co cc b n W (Reads.belowL hrd hW) hok hb hn) ?_
      rintro e w' ⟨⟨k, s, l, rfl, hA⟩, hb'⟩
      rw [nx3_of (AnsN.yes hok hn hA)]
      exact ⟨rfl, hb'⟩
    have HFH := hideM (fun n => field_high (bnum zs) i n)
    have HF0 := hideM (field_zero (bnum zs) i)
    have HFL := hideM (fun m => field_lt (bnum zs) i m)
    have HNK := hideM (nx3_kinds tb)
    have HNZ := hideM (fun b n => @nx3_zero tb b n)
    have HNL := hideM (fun b n => @nx3_len tb b n)
    generalize sy zs (i, 0) tb = S at *
    generalize lkn zs i = K at *
    generalize bnum zs = N at *
    clear hcd hrd hok hr hz
    generalize hL : zs.length = Z at *
    clear hL
    go_enter Tryz.func38, Tryz.ntmps38
    go_wp2_with fail
    go_loopw [6, 7] (fun v kk wr => ∃ k : Nat, k ≤ K ∧ v = .int .u64 (field N i k : Nat) ∧ kk = .int .i64 (k : Nat) ∧ wr = (w.alloc (.cells #[.slice ao Z cap, .int .i64 (i : Nat), .int .i64 0] 33)).alloc (.cells #[.slice none 0 0, .int .i64 0, .int .i64 0] 33)) (fun _ kk _ => K - (intOf kk).toNat)
    case atStart => exact ⟨0, Nat.zero_le _, by rw [HF0.out]; rfl, rfl, rfl⟩
    case round =>
      obtain ⟨k, hk, rfl, rfl, rfl⟩ := hrel
      by_cases hlt : k < K
      · have h15 : k < 15 := by omega
        have h8 : (i : Int) + (k : Int) < 8 * (Z : Int) := by omega
        have HK := hideM (HR.out k hlt _ (((Below.refl w.heap.size w).alloc (Nat.le_refl _) (.cells #[.slice ao Z cap, .int .i64 (i : Nat), .int .i64 0] 33)).alloc (by simp) (.cells #[.slice none 0 0, .int .i64 0, .int .i64 0] 33)))
        have HK2 := hideM (HFH.out k)
        have hf : field N i k < 2 ^ 15 := Nat.lt_of_lt_of_le (HFL.out k) (Nat.pow_le_pow_right (by decide) (by omega))
        have hf2 : field N i k < 32768 := hf
        generalize field N i k = f1 at *
        have hbt : N / 2 ^ (i + k) % 2 < 2 := Nat.mod_lt _ (by decide)
        generalize N / 2 ^ (i + k) % 2 = bt at *
        clear hf
        go_wp2_with fail
        refine Calls.mono HK.out ?_
        rintro e w1 ⟨rfl, rfl⟩
        have HSH := hideM (sh_ok f1 bt k hf2 hbt h15)
        go_wp2_with fail
        go_roundw
        case rel => exact ⟨k + 1, by omega, by rw [HSH.out, HK2.out], by go_num, trivial⟩
        case measure => simp [intOf]; omega
      · have e : k = K := by omega
        subst e
        have hstop : ¬ (k < 15 ∧ i + k < 8 * Z) := by
          rintro ⟨a1, a2⟩
          have := hlk3 a1
          omega
        have hf : field N i k < 2 ^ 64 := Nat.lt_of_lt_of_le (HFL.out k) (Nat.pow_le_pow_right (by decide) (by omega))
        have HN := hideM (HX.out ((w.alloc (.cells #[.slice ao Z cap, .int .i64 (i : Nat), .int .i64 0] 33)).alloc (.cells #[.slice none 0 0, .int .i64 0, .int .i64 0] 33)) (field N i k) k (((Below.refl w.heap.size w).alloc (Nat.le_refl _) _).alloc (by simp) _) hf (by omega))
        have hkk := HNK.out (field N i k) k
        have hz1 := HNZ.out (field N i k) k
        have ht3 := HNL.out (field N i k) k
        generalize nx3 tb (field N i k) k = T at *
        obtain ⟨t1, t2, t3⟩ := T
        dsimp only at *
        have B2 : Hid (L5m ((w.alloc (.cells #[.slice ao Z cap, .int .i64 (i : Nat), .int .i64 0] 33)).alloc (.cells #[.slice none 0 0, .int .i64 0, .int .i64 0] 33)) w.heap.size (.slice ao Z cap) (i : Nat) 0) := (l5m_new w (.slice ao Z cap) (i : Nat) 0 33).below ((Below.refl _ _).alloc (Nat.le_refl _) _)
        have R2 : Hid (L5m ((w.alloc (.cells #[.slice ao Z cap, .int .i64 (i : Nat), .int .i64 0] 33)).alloc (.cells #[.slice none 0 0, .int .i64 0, .int .i64 0] 33)) (w.heap.size + 1) (.slice none 0 0) 0 0) := by
          have h := l5m_new (w.alloc (.cells #[.slice ao Z cap, .int .i64 (i : Nat), .int .i64 0] 33)) (.slice none 0 0) 0 0 33
          rw [World.size_alloc] at h
          exact h
        have L2 : Hid (Below w.heap.size w ((w.alloc (.cells #[.slice ao Z cap, .int .i64 (i : Nat), .int .i64 0] 33)).alloc (.cells #[.slice none 0 0, .int .i64 0, .int .i64 0] 33))) := ((Below.refl _ _).alloc (Nat.le_refl _) _).alloc (by simp) _
        clear HX HNK HNZ HNL HFL HFH HF0 HR hf hlt hlk3
        by_cases h15 : k < 15
        · have h15i : ((k : Int) < 15) := by omega
          have h8 : ¬ ((i : Int) + (k : Int) < 8 * (Z : Int)) := by omega
          have h8d : decide ((i : Int) + (k : Int) < 8 * (Z : Int)) = false := decide_eq_false h8
          clear h15 hstop
          go_wp2_with fail
          refine Calls.mono HN.out ?_
          rintro e w3 ⟨rfl, hb3⟩
          have B3 := hideM (B2.out.below hb3)
          have R3 := hideM (R2.out.below hb3)
          have L3 := hideM (L2.out.trans (hb3.mono L2.out.size))
          have b4 : Below w3.heap.size w3 (w3.alloc (.cells #[.int .i64 (t1 : Nat), .int .i64 (t2 : Nat), .int .i64 (t3 : Nat)] 112)) := (Below.refl _ _).alloc (Nat.le_refl _) _
          have B4 := hideM (B3.out.below b4)
          have R4 := hideM (R3.out.below b4)
          have L4 := hideM (L3.out.trans (b4.mono L3.out.size))
          have X4 := hideM (l5m_new w3 (.int .i64 (t1 : Nat)) (t2 : Nat) (t3 : Nat) 112)
          have hq : w.heap.size + 1 < w3.heap.size := R3.out.lt
          clear hb3 b4 HN B2 R2 L2 B3 R3 L3
          go_upto_region 9 with fail
          obtain ⟨q, hqq⟩ : ∃ q, w3.heap.size = q := ⟨_, rfl⟩
          generalize w3.alloc (.cells #[.int .i64 (t1 : Nat), .int .i64 (t2 : Nat), .int .i64 (t3 : Nat)] 112) = W4 at *
          rw [hqq] at X4 hq ⊢
          clear hqq
          rcases hkk with rfl | rfl | rfl
          · obtain ⟨rfl, rfl⟩ := hz1 (by decide)
            clear hz1
            have HT : Hid (S = ((i, 3), 0)) := by
              show _ = _
              rw [HS.out]
              rfl
            obtain ⟨b0, b1, b2, bf⟩ := B4.out
            obtain ⟨x0, x1, x2, xf⟩ := X4.out
            have z1 := B4.out.lt
            have z2 := X4.out.lt
            clear bf xf
            go_upto_region 11 with fail
            clear b0 b1 b2 x0 x1 x2 z1 z2
            have B5 := B4
            have R5 := R4
            have X5 := X4
            have L5 := L4
            clear B4 R4 X4 L4
            generalize W4 = W5 at *
            obtain ⟨b0, b1, b2, bf⟩ := B5.out
            obtain ⟨x0, x1, x2, xf⟩ := X5.out
            have z1 := B5.out.lt
            have z2 := X5.out.lt
            clear bf xf
            have HBD := hideM (l5Bad_any ao Z cap i 0 true W5)
            rw [show bdP (i, 0) true = (i, 3) from rfl] at HBD
            go_wp2_with fail
            refine Calls.mono HBD.out ?_
            rintro e w6 ⟨rfl, hb6⟩
            have B6 := hideM (B5.out.below hb6)
            have R6 := hideM (R5.out.below hb6)
            have X6 := hideM (X5.out.below hb6)
            have L6 := hideM (L5.out.trans (hb6.mono L5.out.size))
            clear hb6 HBD b0 b1 b2 x0 x1 x2 z1 z2
            obtain ⟨b0, b1, b2, bf⟩ := B6.out
            have bf0 := bf 0
            have bf1 := bf 1
            have bf2 := bf 2
            have z1 := B6.out.lt
            clear bf
            have E7 := hideM (B6.out.set (.slice ao Z cap) (i : Nat) 3)
            have R7 := hideM (R6.out.grown E7.out.2 (by simp))
            have X7 := hideM (X6.out.grown E7.out.2 (by simp; omega))
            have L7 := hideM (L6.out.grown E7.out.2 (by have := B6.out.lt; omega) (by intro k e; simp at e; omega))
            have B7 := hideM E7.out.1
            go_upto_region 12 with fail
            clear E7 b0 b1 b2 bf0 bf1 bf2 z1
            generalize ((w6.setCell ⟨w.heap.size, 0, none⟩ (.slice ao Z cap)).setCell ⟨w.heap.size, 1, none⟩ (.int .i64 (i : Nat))).setCell ⟨w.heap.size, 2, none⟩ (.int .i64 3) = W7 at *
            obtain ⟨b0, b1, b2, bf⟩ := B7.out
            have bf1 := bf 1
            obtain ⟨x0, x1, x2, xf⟩ := X7.out
            have z1 := B7.out.lt
            have z2 := X7.out.lt
            clear bf xf
            go_upto_region 13 with fail
            clear b0 b1 b2 bf1 x0 x1 x2 z1 z2
            have V8 := hideM (grownBy_setCell W7 ⟨w.heap.size, 1, none⟩ (.int .i64 ((i : Nat) : Int)))
            have B8 := hideM (B7.out.set1 ((i : Nat) : Int))
            have R8 := hideM (R7.out.grown V8.out (by simp))
            have X8 := hideM (X7.out.grown V8.out (by simp; omega))
            have L8 := hideM (L7.out.grown V8.out (by have := B7.out.lt; omega) (by intro k e; simp at e; omega))
            clear V8
            generalize W7.setCell ⟨w.heap.size, 1, none⟩ (.int .i64 ((i : Nat) : Int)) = W8 at *
            obtain ⟨b0, b1, b2, bf⟩ := B8.out
            obtain ⟨r0, r1, r2, rf⟩ := R8.out
            have rf0 := rf 0
            have rf1 := rf 1
            have rf2 := rf 2
            obtain ⟨x0, x1, x2, xf⟩ := X8.out
            have z1 := B8.out.lt
            have z2 := X8.out.lt
            have z3 := R8.out.lt
            clear bf rf xf
            have E9 := hideM (R8.out.set (.slice ao Z cap) ((i : Nat) : Int) 3)
            have L9 := hideM (L8.out.grown E9.out.2 (by omega) (by intro k e; simp at e; omega))
            go_region
            go_wp2_with fail
            obtain ⟨⟨y0, y1, y2, _⟩, _⟩ := E9.out
            rw [HT.out]
            exact bodyPost_ret (v := .tuple #[.agg #[.slice ao Z cap, .int .i64 ((i : Nat) : Int), .int .i64 3], .int .i64 0]) (by simp [results, Tryz.results38, go_sem, y0, y1, y2]) rfl ⟨rfl, by first | exact L9.out | exact L9.out.drew⟩
          · clear hz1
            have HT : Hid (S = ((i + t3, 0), t2)) := by
              show _ = _
              rw [HS.out]
              rfl
            obtain ⟨b0, b1, b2, bf⟩ := B4.out
            obtain ⟨x0, x1, x2, xf⟩ := X4.out
            have z1 := B4.out.lt
            have z2 := X4.out.lt
            clear bf xf
            go_upto_region 11 with fail
            clear b0 b1 b2 x0 x1 x2 z1 z2
            have B5 := B4
            have R5 := R4
            have X5 := X4
            have L5 := L4
            clear B4 R4 X4 L4
            generalize W4 = W5 at *
            obtain ⟨b0, b1, b2, bf⟩ := B5.out
            obtain ⟨x0, x1, x2, xf⟩ := X5.out
            have z1 := B5.out.lt
            have z2 := X5.out.lt
            clear bf xf
            have HBD := hideM (l5Bad_any ao Z cap i 0 false W5)
            rw [show bdP (i, 0) false = (i, 0) from rfl] at HBD
            go_wp2_with fail
            refine Calls.mono HBD.out ?_
            rintro e w6 ⟨rfl, hb6⟩
            have B6 := hideM (B5.out.below hb6)
            have R6 := hideM (R5.out.below hb6)
            have X6 := hideM (X5.out.below hb6)
            have L6 := hideM (L5.out.trans (hb6.mono L5.out.size))
            clear hb6 HBD b0 b1 b2 x0 x1 x2 z1 z2
            obtain ⟨b0, b1, b2, bf⟩ := B6.out
            have bf0 := bf 0
            have bf1 := bf 1
            have bf2 := bf 2
            have z1 := B6.out.lt
            clear bf
            have E7 := hideM (B6.out.set (.slice ao Z cap) (i : Nat) 0)
            have R7 := hideM (R6.out.grown E7.out.2 (by simp))
            have X7 := hideM (X6.out.grown E7.out.2 (by simp; omega))
            have L7 := hideM (L6.out.grown E7.out.2 (by have := B6.out.lt; omega) (by intro k e; simp at e; omega))
            have B7 := hideM E7.out.1
            go_upto_region 12 with fail
            clear E7 b0 b1 b2 bf0 bf1 bf2 z1
            generalize ((w6.setCell ⟨w.heap.size, 0, none⟩ (.slice ao Z cap)).setCell ⟨w.heap.size, 1, none⟩ (.int .i64 (i : Nat))).setCell ⟨w.heap.size, 2, none⟩ (.int .i64 0) = W7 at *
            obtain ⟨b0, b1, b2, bf⟩ := B7.out
            have bf1 := bf 1
            obtain ⟨x0, x1, x2, xf⟩ := X7.out
            have z1 := B7.out.lt
            have z2 := X7.out.lt
            clear bf xf
            go_upto_region 13 with fail
            clear b0 b1 b2 bf1 x0 x1 x2 z1 z2
            have V8 := hideM (grownBy_setCell W7 ⟨w.heap.size, 1, none⟩ (.int .i64 ((i : Int) + (t3 : Int))))
            have B8 := hideM (B7.out.set1 ((i : Int) + (t3 : Int)))
            have R8 := hideM (R7.out.grown V8.out (by simp))
            have X8 := hideM (X7.out.grown V8.out (by simp; omega))
            have L8 := hideM (L7.out.grown V8.out (by have := B7.out.lt; omega) (by intro k e; simp at e; omega))
            clear V8
            generalize W7.setCell ⟨w.heap.size, 1, none⟩ (.int .i64 ((i : Int) + (t3 : Int))) = W8 at *
            obtain ⟨b0, b1, b2, bf⟩ := B8.out
            obtain ⟨r0, r1, r2, rf⟩ := R8.out
            have rf0 := rf 0
            have rf1 := rf 1
            have rf2 := rf 2
            obtain ⟨x0, x1, x2, xf⟩ := X8.out
            have z1 := B8.out.lt
            have z2 := X8.out.lt
            have z3 := R8.out.lt
            clear bf rf xf
            have E9 := hideM (R8.out.set (.slice ao Z cap) ((i : Int) + (t3 : Int)) 0)
            have L9 := hideM (L8.out.grown E9.out.2 (by omega) (by intro k e; simp at e; omega))
            go_region
            go_wp2_with fail
            obtain ⟨⟨y0, y1, y2, _⟩, _⟩ := E9.out
            rw [HT.out]
            exact bodyPost_ret (v := .tuple #[.agg #[.slice ao Z cap, .int .i64 ((i : Int) + (t3 : Int)), .int .i64 0], .int .i64 (t2 : Nat)]) (by simp [results, Tryz.results38, go_sem, y0, y1, y2]) rfl ⟨by rw [Int.natCast_add], by first | exact L9.out | exact L9.out.drew⟩
          · obtain ⟨rfl, rfl⟩ := hz1 (by decide)
            clear hz1
            have HT : Hid (S = ((i, 2), 0)) := by
              show _ = _
              rw [HS.out]
              rfl
            have B5 := hideM (B4.out.set2 2)
            have V5 := hideM (grownBy_setCell W4 ⟨w.heap.size, 2, none⟩ (.int .i64 2))
            have R5 := hideM (R4.out.grown V5.out (by simp))
            have X5 := hideM (X4.out.grown V5.out (by simp; omega))
            have L5 := hideM (L4.out.grown V5.out (by have := B4.out.lt; omega) (by intro k e; simp at e; omega))
            obtain ⟨b0, b1, b2, bf⟩ := B4.out
            have bf2 := bf 2
            obtain ⟨x0, x1, x2, xf⟩ := X4.out
            have z1 := B4.out.lt
            have z2 := X4.out.lt
            clear bf xf
            go_upto_region 11 with fail
            clear b0 b1 b2 bf2 x0 x1 x2 z1 z2 V5
            generalize W4.setCell ⟨w.heap.size, 2, none⟩ (.int .i64 2) = W5 at *
            obtain ⟨b0, b1, b2, bf⟩ := B5.out
            obtain ⟨x0, x1, x2, xf⟩ := X5.out
            have z1 := B5.out.lt
            have z2 := X5.out.lt
            clear bf xf
            have HBD := hideM (l5Bad_any ao Z cap i 2 false W5)
            rw [show bdP (i, 2) false = (i, 2) from rfl] at HBD
            go_wp2_with fail
            refine Calls.mono HBD.out ?_
            rintro e w6 ⟨rfl, hb6⟩
            have B6 := hideM (B5.out.below hb6)
            have R6 := hideM (R5.out.below hb6)
            have X6 := hideM (X5.out.below hb6)
            have L6 := hideM (L5.out.trans (hb6.mono L5.out.size))
            clear hb6 HBD b0 b1 b2 x0 x1 x2 z1 z2
            obtain ⟨b0, b1, b2, bf⟩ := B6.out
            have bf0 := bf 0
            have bf1 := bf 1
            have bf2 := bf 2
            have z1 := B6.out.lt
            clear bf
            have E7 := hideM (B6.out.set (.slice ao Z cap) (i : Nat) 2)
            have R7 := hideM (R6.out.grown E7.out.2 (by simp))
            have X7 := hideM (X6.out.grown E7.out.2 (by simp; omega))
            have L7 := hideM (L6.out.grown E7.out.2 (by have := B6.out.lt; omega) (by intro k e; simp at e; omega))
            have B7 := hideM E7.out.1
            go_upto_region 12 with fail
            clear E7 b0 b1 b2 bf0 bf1 bf2 z1
            generalize ((w6.setCell ⟨w.heap.size, 0, none⟩ (.slice ao Z cap)).setCell ⟨w.heap.size, 1, none⟩ (.int .i64 (i : Nat))).setCell ⟨w.heap.size, 2, none⟩ (.int .i64 2) = W7 at *
            obtain ⟨b0, b1, b2, bf⟩ := B7.out
            have bf1 := bf 1
            obtain ⟨x0, x1, x2, xf⟩ := X7.out
            have z1 := B7.out.lt
            have z2 := X7.out.lt
            clear bf xf
            go_upto_region 13 with fail
            clear b0 b1 b2 bf1 x0 x1 x2 z1 z2
            have V8 := hideM (grownBy_setCell W7 ⟨w.heap.size, 1, none⟩ (.int .i64 ((i : Nat) : Int)))
            have B8 := hideM (B7.out.set1 ((i : Nat) : Int))
            have R8 := hideM (R7.out.grown V8.out (by simp))
            have X8 := hideM (X7.out.grown V8.out (by simp; omega))
            have L8 := hideM (L7.out.grown V8.out (by have := B7.out.lt; omega) (by intro k e; simp at e; omega))
            clear V8
            generalize W7.setCell ⟨w.heap.size, 1, none⟩ (.int .i64 ((i : Nat) : Int)) = W8 at *
            obtain ⟨b0, b1, b2, bf⟩ := B8.out
            obtain ⟨r0, r1, r2, rf⟩ := R8.out
            have rf0 := rf 0
            have rf1 := rf 1
            have rf2 := rf 2
            obtain ⟨x0, x1, x2, xf⟩ := X8.out
            have z1 := B8.out.lt
            have z2 := X8.out.lt
            have z3 := R8.out.lt
            clear bf rf xf
            have E9 := hideM (R8.out.set (.slice ao Z cap) ((i : Nat) : Int) 2)
            have L9 := hideM (L8.out.grown E9.out.2 (by omega) (by intro k e; simp at e; omega))
            go_region
            go_wp2_with fail
            obtain ⟨⟨y0, y1, y2, _⟩, _⟩ := E9.out
            rw [HT.out]
            exact bodyPost_ret (v := .tuple #[.agg #[.slice ao Z cap, .int .i64 ((i : Nat) : Int), .int .i64 2], .int .i64 0]) (by simp [results, Tryz.results38, go_sem, y0, y1, y2]) rfl ⟨rfl, by first | exact L9.out | exact L9.out.drew⟩
        · have h15i : ¬ ((k : Int) < 15) := by omega
          have h15d : decide ((k : Int) < 15) = false := decide_eq_false h15i
          clear h15 hstop
          go_wp2_with fail
          refine Calls.mono HN.out ?_
          rintro e w3 ⟨rfl, hb3⟩
          have B3 := hideM (B2.out.below hb3)
          have R3 := hideM (R2.out.below hb3)
          have L3 := hideM (L2.out.trans (hb3.mono L2.out.size))
          have b4 : Below w3.heap.size w3 (w3.alloc (.cells #[.int .i64 (t1 : Nat), .int .i64 (t2 : Nat), .int .i64 (t3 : Nat)] 112)) := (Below.refl _ _).alloc (Nat.le_refl _) _
          have B4 := hideM (B3.out.below b4)
          have R4 := hideM (R3.out.below b4)
          have L4 := hideM (L3.out.trans (b4.mono L3.out.size))
          have X4 := hideM (l5m_new w3 (.int .i64 (t1 : Nat)) (t2 : Nat) (t3 : Nat) 112)
          have hq : w.heap.size + 1 < w3.heap.size := R3.out.lt
          clear hb3 b4 HN B2 R2 L2 B3 R3 L3
          go_upto_region 9 with fail
          obtain ⟨q, hqq⟩ : ∃ q, w3.heap.size = q := ⟨_, rfl⟩
          generalize w3.alloc (.cells #[.int .i64 (t1 : Nat), .int .i64 (t2 : Nat), .int .i64 (t3 : Nat)] 112) = W4 at *
          rw [hqq] at X4 hq ⊢
          clear hqq
          rcases hkk with rfl | rfl | rfl
          · obtain ⟨rfl, rfl⟩ := hz1 (by decide)
            clear hz1
            have HT : Hid (S = ((i, 3), 0)) := by
              show _ = _
              rw [HS.out]
              rfl
            obtain ⟨b0, b1, b2, bf⟩ := B4.out
            obtain ⟨x0, x1, x2, xf⟩ := X4.out
            have z1 := B4.out.lt
            have z2 := X4.out.lt
            clear bf xf
            go_upto_region 11 with fail
            clear b0 b1 b2 x0 x1 x2 z1 z2
            have B5 := B4
            have R5 := R4
            have X5 := X4
            have L5 := L4
            clear B4 R4 X4 L4
            generalize W4 = W5 at *
            obtain ⟨b0, b1, b2, bf⟩ := B5.out
            obtain ⟨x0, x1, x2, xf⟩ := X5.out
            have z1 := B5.out.lt
            have z2 := X5.out.lt
            clear bf xf
            have HBD := hideM (l5Bad_any ao Z cap i 0 true W5)
            rw [show bdP (i, 0) true = (i, 3) from rfl] at HBD
            go_wp2_with fail
            refine Calls.mono HBD.out ?_
            rintro e w6 ⟨rfl, hb6⟩
            have B6 := hideM (B5.out.below hb6)
            have R6 := hideM (R5.out.below hb6)
            have X6 := hideM (X5.out.below hb6)
            have L6 := hideM (L5.out.trans (hb6.mono L5.out.size))
            clear hb6 HBD b0 b1 b2 x0 x1 x2 z1 z2
            obtain ⟨b0, b1, b2, bf⟩ := B6.out
            have bf0 := bf 0
            have bf1 := bf 1
            have bf2 := bf 2
            have z1 := B6.out.lt
            clear bf
            have E7 := hideM (B6.out.set (.slice ao Z cap) (i : Nat) 3)
            have R7 := hideM (R6.out.grown E7.out.2 (by simp))
            have X7 := hideM (X6.out.grown E7.out.2 (by simp; omega))
            have L7 := hideM (L6.out.grown E7.out.2 (by have := B6.out.lt; omega) (by intro k e; simp at e; omega))
            have B7 := hideM E7.out.1
            go_upto_region 12 with fail
            clear E7 b0 b1 b2 bf0 bf1 bf2 z1
            generalize ((w6.setCell ⟨w.heap.size, 0, none⟩ (.slice ao Z cap)).setCell ⟨w.heap.size, 1, none⟩ (.int .i64 (i : Nat))).setCell ⟨w.heap.size, 2, none⟩ (.int .i64 3) = W7 at *
            obtain ⟨b0, b1, b2, bf⟩ := B7.out
            have bf1 := bf 1
            obtain ⟨x0, x1, x2, xf⟩ := X7.out
            have z1 := B7.out.lt
            have z2 := X7.out.lt
            clear bf xf
            go_upto_region 13 with fail
            clear b0 b1 b2 bf1 x0 x1 x2 z1 z2
            have V8 := hideM (grownBy_setCell W7 ⟨w.heap.size, 1, none⟩ (.int .i64 ((i : Nat) : Int)))
            have B8 := hideM (B7.out.set1 ((i : Nat) : Int))
            have R8 := hideM (R7.out.grown V8.out (by simp))
            have X8 := hideM (X7.out.grown V8.out (by simp; omega))
            have L8 := hideM (L7.out.grown V8.out (by have := B7.out.lt; omega) (by intro k e; simp at e; omega))
            clear V8
            generalize W7.setCell ⟨w.heap.size, 1, none⟩ (.int .i64 ((i : Nat) : Int)) = W8 at *
            obtain ⟨b0, b1, b2, bf⟩ := B8.out
            obtain ⟨r0, r1, r2, rf⟩ := R8.out
            have rf0 := rf 0
            have rf1 := rf 1
            have rf2 := rf 2
            obtain ⟨x0, x1, x2, xf⟩ := X8.out
            have z1 := B8.out.lt
            have z2 := X8.out.lt
            have z3 := R8.out.lt
            clear bf rf xf
            have E9 := hideM (R8.out.set (.slice ao Z cap) ((i : Nat) : Int) 3)
            have L9 := hideM (L8.out.grown E9.out.2 (by omega) (by intro k e; simp at e; omega))
            go_region
            go_wp2_with fail
            obtain ⟨⟨y0, y1, y2, _⟩, _⟩ := E9.out
            rw [HT.out]
            exact bodyPost_ret (v := .tuple #[.agg #[.slice ao Z cap, .int .i64 ((i : Nat) : Int), .int .i64 3], .int .i64 0]) (by simp [results, Tryz.results38, go_sem, y0, y1, y2]) rfl ⟨rfl, by first | exact L9.out | exact L9.out.drew⟩
          · clear hz1
            have HT : Hid (S = ((i + t3, 0), t2)) := by
              show _ = _
              rw [HS.out]
              rfl
            obtain ⟨b0, b1, b2, bf⟩ := B4.out
            obtain ⟨x0, x1, x2, xf⟩ := X4.out
            have z1 := B4.out.lt
            have z2 := X4.out.lt
            clear bf xf
            go_upto_region 11 with fail
            clear b0 b1 b2 x0 x1 x2 z1 z2
            have B5 := B4
            have R5 := R4
            have X5 := X4
            have L5 := L4
            clear B4 R4 X4 L4
            generalize W4 = W5 at *
            obtain ⟨b0, b1, b2, bf⟩ := B5.out
            obtain ⟨x0, x1, x2, xf⟩ := X5.out
            have z1 := B5.out.lt
            have z2 := X5.out.lt
            clear bf xf
            have HBD := hideM (l5Bad_any ao Z cap i 0 false W5)
            rw [show bdP (i, 0) false = (i, 0) from rfl] at HBD
            go_wp2_with fail
            refine Calls.mono HBD.out ?_
            rintro e w6 ⟨rfl, hb6⟩
            have B6 := hideM (B5.out.below hb6)
            have R6 := hideM (R5.out.below hb6)
            have X6 := hideM (X5.out.below hb6)
            have L6 := hideM (L5.out.trans (hb6.mono L5.out.size))
            clear hb6 HBD b0 b1 b2 x0 x1 x2 z1 z2
            obtain ⟨b0, b1, b2, bf⟩ := B6.out
            have bf0 := bf 0
            have bf1 := bf 1
            have bf2 := bf 2
            have z1 := B6.out.lt
            clear bf
            have E7 := hideM (B6.out.set (.slice ao Z cap) (i : Nat) 0)
            have R7 := hideM (R6.out.grown E7.out.2 (by simp))
            have X7 := hideM (X6.out.grown E7.out.2 (by simp; omega))
            have L7 := hideM (L6.out.grown E7.out.2 (by have := B6.out.lt; omega) (by intro k e; simp at e; omega))
            have B7 := hideM E7.out.1
            go_upto_region 12 with fail
            clear E7 b0 b1 b2 bf0 bf1 bf2 z1
            generalize ((w6.setCell ⟨w.heap.size, 0, none⟩ (.slice ao Z cap)).setCell ⟨w.heap.size, 1, none⟩ (.int .i64 (i : Nat))).setCell ⟨w.heap.size, 2, none⟩ (.int .i64 0) = W7 at *
            obtain ⟨b0, b1, b2, bf⟩ := B7.out
            have bf1 := bf 1
            obtain ⟨x0, x1, x2, xf⟩ := X7.out
            have z1 := B7.out.lt
            have z2 := X7.out.lt
            clear bf xf
            go_upto_region 13 with fail
            clear b0 b1 b2 bf1 x0 x1 x2 z1 z2
            have V8 := hideM (grownBy_setCell W7 ⟨w.heap.size, 1, none⟩ (.int .i64 ((i : Int) + (t3 : Int))))
            have B8 := hideM (B7.out.set1 ((i : Int) + (t3 : Int)))
            have R8 := hideM (R7.out.grown V8.out (by simp))
            have X8 := hideM (X7.out.grown V8.out (by simp; omega))
            have L8 := hideM (L7.out.grown V8.out (by have := B7.out.lt; omega) (by intro k e; simp at e; omega))
            clear V8
            generalize W7.setCell ⟨w.heap.size, 1, none⟩ (.int .i64 ((i : Int) + (t3 : Int))) = W8 at *
            obtain ⟨b0, b1, b2, bf⟩ := B8.out
            obtain ⟨r0, r1, r2, rf⟩ := R8.out
            have rf0 := rf 0
            have rf1 := rf 1
            have rf2 := rf 2
            obtain ⟨x0, x1, x2, xf⟩ := X8.out
            have z1 := B8.out.lt
            have z2 := X8.out.lt
            have z3 := R8.out.lt
            clear bf rf xf
            have E9 := hideM (R8.out.set (.slice ao Z cap) ((i : Int) + (t3 : Int)) 0)
            have L9 := hideM (L8.out.grown E9.out.2 (by omega) (by intro k e; simp at e; omega))
            go_region
            go_wp2_with fail
            obtain ⟨⟨y0, y1, y2, _⟩, _⟩ := E9.out
            rw [HT.out]
            exact bodyPost_ret (v := .tuple #[.agg #[.slice ao Z cap, .int .i64 ((i : Int) + (t3 : Int)), .int .i64 0], .int .i64 (t2 : Nat)]) (by simp [results, Tryz.results38, go_sem, y0, y1, y2]) rfl ⟨by rw [Int.natCast_add], by first | exact L9.out | exact L9.out.drew⟩
          · obtain ⟨rfl, rfl⟩ := hz1 (by decide)
            clear hz1
            have HT : Hid (S = ((i, 2), 0)) := by
              show _ = _
              rw [HS.out]
              rfl
            have B5 := hideM (B4.out.set2 2)
            have V5 := hideM (grownBy_setCell W4 ⟨w.heap.size, 2, none⟩ (.int .i64 2))
            have R5 := hideM (R4.out.grown V5.out (by simp))
            have X5 := hideM (X4.out.grown V5.out (by simp; omega))
            have L5 := hideM (L4.out.grown V5.out (by have := B4.out.lt; omega) (by intro k e; simp at e; omega))
            obtain ⟨b0, b1, b2, bf⟩ := B4.out
            have bf2 := bf 2
            obtain ⟨x0, x1, x2, xf⟩ := X4.out
            have z1 := B4.out.lt
            have z2 := X4.out.lt
            clear bf xf
            go_upto_region 11 with fail
            clear b0 b1 b2 bf2 x0 x1 x2 z1 z2 V5
            generalize W4.setCell ⟨w.heap.size, 2, none⟩ (.int .i64 2) = W5 at *
            obtain ⟨b0, b1, b2, bf⟩ := B5.out
            obtain ⟨x0, x1, x2, xf⟩ := X5.out
            have z1 := B5.out.lt
            have z2 := X5.out.lt
            clear bf xf
            have HBD := hideM (l5Bad_any ao Z cap i 2 false W5)
            rw [show bdP (i, 2) false = (i, 2) from rfl] at HBD
            go_wp2_with fail
            refine Calls.mono HBD.out ?_
            rintro e w6 ⟨rfl, hb6⟩
            have B6 := hideM (B5.out.below hb6)
            have R6 := hideM (R5.out.below hb6)
            have X6 := hideM (X5.out.below hb6)
            have L6 := hideM (L5.out.trans (hb6.mono L5.out.size))
            clear hb6 HBD b0 b1 b2 x0 x1 x2 z1 z2
            obtain ⟨b0, b1, b2, bf⟩ := B6.out
            have bf0 := bf 0
            have bf1 := bf 1
            have bf2 := bf 2
            have z1 := B6.out.lt
            clear bf
            have E7 := hideM (B6.out.set (.slice ao Z cap) (i : Nat) 2)
            have R7 := hideM (R6.out.grown E7.out.2 (by simp))
            have X7 := hideM (X6.out.grown E7.out.2 (by simp; omega))
            have L7 := hideM (L6.out.grown E7.out.2 (by have := B6.out.lt; omega) (by intro k e; simp at e; omega))
            have B7 := hideM E7.out.1
            go_upto_region 12 with fail
            clear E7 b0 b1 b2 bf0 bf1 bf2 z1
            generalize ((w6.setCell ⟨w.heap.size, 0, none⟩ (.slice ao Z cap)).setCell ⟨w.heap.size, 1, none⟩ (.int .i64 (i : Nat))).setCell ⟨w.heap.size, 2, none⟩ (.int .i64 2) = W7 at *
            obtain ⟨b0, b1, b2, bf⟩ := B7.out
            have bf1 := bf 1
            obtain ⟨x0, x1, x2, xf⟩ := X7.out
            have z1 := B7.out.lt
            have z2 := X7.out.lt
            clear bf xf
            go_upto_region 13 with fail
            clear b0 b1 b2 bf1 x0 x1 x2 z1 z2
            have V8 := hideM (grownBy_setCell W7 ⟨w.heap.size, 1, none⟩ (.int .i64 ((i : Nat) : Int)))
            have B8 := hideM (B7.out.set1 ((i : Nat) : Int))
            have R8 := hideM (R7.out.grown V8.out (by simp))
            have X8 := hideM (X7.out.grown V8.out (by simp; omega))
            have L8 := hideM (L7.out.grown V8.out (by have := B7.out.lt; omega) (by intro k e; simp at e; omega))
            clear V8
            generalize W7.setCell ⟨w.heap.size, 1, none⟩ (.int .i64 ((i : Nat) : Int)) = W8 at *
            obtain ⟨b0, b1, b2, bf⟩ := B8.out
            obtain ⟨r0, r1, r2, rf⟩ := R8.out
            have rf0 := rf 0
            have rf1 := rf 1
            have rf2 := rf 2
            obtain ⟨x0, x1, x2, xf⟩ := X8.out
            have z1 := B8.out.lt
            have z2 := X8.out.lt
            have z3 := R8.out.lt
            clear bf rf xf
            have E9 := hideM (R8.out.set (.slice ao Z cap) ((i : Nat) : Int) 2)
            have L9 := hideM (L8.out.grown E9.out.2 (by omega) (by intro k e; simp at e; omega))
            go_region
            go_wp2_with fail
            obtain ⟨⟨y0, y1, y2, _⟩, _⟩ := E9.out
            rw [HT.out]
            exact bodyPost_ret (v := .tuple #[.agg #[.slice ao Z cap, .int .i64 ((i : Nat) : Int), .int .i64 2], .int .i64 0]) (by simp [results, Tryz.results38, go_sem, y0, y1, y2]) rfl ⟨rfl, by first | exact L9.out | exact L9.out.drew⟩
  · have hb2 : (cl != 0) = true := by simp [hc]
    have hs : sy zs (i, cl) tb = ((i, cl), 0) := by unfold sy; rw [if_neg hc]
    rw [hs]
    clear hc hr hz hcd hs
    generalize hL : zs.length = Z at *
    clear hL
    go_enter Tryz.func38, Tryz.ntmps38
    go_wp2_with fail
    exact bodyPost_ret (v := .tuple #[.agg #[.slice ao Z cap, .int .i64 (i : Nat), .int .i64 cl], .int .i64 0]) (by simp [results, Tryz.results38, go_sem]) rfl ⟨rfl, ((Below.refl _ _).alloc (Nat.le_refl _) _).alloc (by simp) _⟩
end Go.Proofs.YtlfabilmilkboaaGreatDoor
