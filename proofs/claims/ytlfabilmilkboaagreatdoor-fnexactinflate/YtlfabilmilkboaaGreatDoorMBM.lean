import Derived.Test.YtlfabilmilkboaaGreatDoorMBL
namespace Go.Proofs.YtlfabilmilkboaaGreatDoor
open Go.RowKit
attribute [local go_sem ↓] Go.wp_at_zero Go.wp_at_succ
set_option linter.unusedVariables false

section
variable {P : Program} (w : World)
/-- append of elements that lie anywhere onto a row of the call's own; where the row lies then. -/
theorem wpList_append_cells2 {ops : Array Oper} {rest : List Oper} {o : Oper} {a : Act} {Q : Exit → Act → World → Prop} (hgd : o.guard = none) (s x : Operand) (t : TypeId)
    (ho : o.op = .call { callee := .builtin .append, args := #[s, x], argTypes := #[t, t] })
    (base : Nat) (e : TypeId) (i : TypeInfo) (z : Value) (size bytes : Nat) (ht : P.underlying t = some (.slice e)) (hi : P.info? e = some i) (hz : i.zero = some z)
    (hsize : i.size = size) (hby : i.bytes = bytes) (hzs : z.cells.size = size) (hsz : 0 < size)
    (v : Value) (n : Nat) (xs : List Value) (hs : a.eval s = v) (hown : w.ownsRow base e size v n xs) (ad : Addr) (m c : Nat) (news : List Value) (hx : a.eval x = .slice (some ad) m c)
    (hl : news.length = m * size) (hnews : ∀ j u, news[j]? = some u → w.cell? (ad.add j) = some u) (h1 : ∀ u ∈ news, u.oneCell' = true)
    (h63 : n + m ≤ maxLen) (hbytes : (n + m) * bytes ≤ 140737488355328) (hbase : base ≤ w.heap.size)
    (h : ∀ v' w', w'.ownsRow base e size v' (n + m) (xs ++ news) → w.grownBy w' v.ownBlock → (v'.ownBlock = v.ownBlock ∨ v'.ownBlock = some w.heap.size) → wpList P ops Q rest (a.put o.dst v') w') : wpList P ops Q (o :: rest) a w := by
  refine wpList_plain hgd fun K hK => ?_
  obtain ⟨v', w', hr, h2, h3, _, h5⟩ := run_append_own_at (P := P) w base t o.type e i z size bytes ht hi hz hsize hby hzs hsz v n xs hown ad m c news hl hnews h1 h63 hbytes hbase
  unfold Oper.wp execOp
  simp only [ho, resolve, invoke, builtin, Sem.run_bind, Sem.run_pure, Result.andThen_ok, List.map_toArray, List.map_cons, List.map_nil, hs, hx, hr]
  exact hK _ _ (h v' w' h2 h3 h5)
end
theorem grownBy_row {a b c : World} {r r' : Option Nat} (h : a.grownBy b r) (k : b.grownBy c r') (hr : ∀ g, r' = some g → r = some g ∨ a.heap.size ≤ g) : a.grownBy c r := by
  refine ⟨k.os.trans h.os, k.tape.trans h.tape, k.output.trans h.output, Nat.le_trans h.size k.size, fun i hi hne => ?_⟩
  rw [k.block i (Nat.lt_of_lt_of_le hi h.size) ?_, h.block i hi hne]
  intro e
  rcases hr i e.symm with h1 | h1
  · exact hne h1.symm
  · omega
theorem orR {a b c : Prop} (h : a ∨ b) (f : b → c) : a ∨ c := by
  rcases h with h | h
  · exact .inl h
  · exact .inr (f h)
theorem OwnsI.lies {B : Nat} {w : World} {ao : Option Addr} {cap : Nat} {zs : List Int} (h : OwnsI B w ao cap zs) : ∀ g, blk ao = some g → g < w.heap.size := by
  intro g e
  rcases h.2 with ⟨h1, _⟩ | ⟨g', cap', cur, h1, h2, h3, _⟩
  · simp only [Value.slice.injEq] at h1
    rw [h1.1] at e
    cases e
  · simp only [Value.slice.injEq] at h1
    rw [h1.1] at e
    simp [blk] at e
    subst e
    exact (Array.getElem?_eq_some_iff.1 h3).1
set_option maxRecDepth 100000 in
theorem l5Order_any (w : World) : Calls Tryz.prog 35 #[] w fun e w' => ∃ g, e = .returned (.slice (some ⟨g, 0, none⟩) 19 19) ∧ (∀ k, k < 19 → w'.cell? ⟨g, k, none⟩ = some (.int .i64 (ord19 k : Nat))) ∧ g = w.heap.size ∧ Below w.heap.size w w' := by
  go_enter Tryz.func35, Tryz.ntmps35
  go_wp2_with fail
  go_ret
  refine ⟨_, rfl, ?_, rfl, (Below.refl _ _).alloc (Nat.le_refl _) _⟩
  intro k hk
  have h3 : k = 0 ∨ k = 1 ∨ k = 2 ∨ k = 3 ∨ k = 4 ∨ k = 5 ∨ k = 6 ∨ k = 7 ∨ k = 8 ∨ k = 9 ∨ k = 10 ∨ k = 11 ∨ k = 12 ∨ k = 13 ∨ k = 14 ∨ k = 15 ∨ k = 16 ∨ k = 17 ∨ k = 18 := by omega
  rcases h3 with rfl | rfl | rfl | rfl | rfl | rfl | rfl | rfl | rfl | rfl | rfl | rfl | rfl | rfl | rfl | rfl | rfl | rfl | rfl <;> simp [go_sem, ord19]
theorem l5IsKind_any (ao : Option Addr) (cap : Nat) (zs : List Int) (a b c : Int) (w : World) (hr : Row64 w ao zs) (hl : zs.length ≤ 1048576) :
    Calls Tryz.prog 40 #[.slice ao zs.length cap, .int .i64 a, .int .i64 b, .int .i64 c] w fun e w' => e = .returned (.bool (decide (hk zs = a ∨ hk zs = b ∨ hk zs = c))) ∧ Below w.heap.size w w' := by
  have HK := hideM (skind_any ao cap zs w hr hl)
  obtain ⟨r, hrr⟩ : ∃ r : Bool, decide (hk zs = a ∨ hk zs = b ∨ hk zs = c) = r := ⟨_, rfl⟩
  rw [hrr]
  have HR := hideM hrr
  generalize hk zs = k at *
  clear hr hrr
  by_cases h1 : k = a
  · have b1 : (k == a) = true := by simp [h1]
    have HX : Hid (true = r) := by show _ = _; rw [← HR.out]; simp [h1]
    clear h1 HR
    go_enter Tryz.func40, Tryz.ntmps40
    go_wp2_with fail
    refine Calls.mono HK.out ?_
    rintro e w1 ⟨rfl, q, rfl⟩
    go_wp2_with fail
    go_ret
    exact ⟨retb HX.out, below_drewN' _ _ _⟩
  · have b1 : (k == a) = false := by simp [h1]
    by_cases h2 : k = b
    · have b2 : (k == b) = true := by simp [h2]
      have HX : Hid (true = r) := by show _ = _; rw [← HR.out]; simp [h2]
      clear h1 h2 HR
      go_enter Tryz.func40, Tryz.ntmps40
      go_wp2_with fail
      refine Calls.mono HK.out ?_
      rintro e w1 ⟨rfl, q, rfl⟩
      go_wp2_with fail
      go_ret
      exact ⟨retb HX.out, below_drewN' _ _ _⟩
    · have b2 : (k == b) = false := by simp [h2]
      have HX : Hid ((k == c) = r) := by show _ = _; rw [← HR.out]; by_cases h3 : k = c <;> simp [h1, h2, h3]
      clear h1 h2 HR
      generalize hB3 : (k == c) = b3 at *
      go_enter Tryz.func40, Tryz.ntmps40
      go_wp2_with fail
      refine Calls.mono HK.out ?_
      rintro e w1 ⟨rfl, q, rfl⟩
      go_wp2_with fail
      go_ret
      exact ⟨retb (by rw [← HX.out]), below_drewN' _ _ _⟩
/-- What l5Repeat answers. -/
def RepPost (zs : List Int) (ao : Option Addr) (cap : Nat) (aa : Option Addr) (B : Nat) (t : RR × List Int) (e : Ending) (w w' : World) : Prop :=
  ∃ ao' ca', e = .returned (.tuple #[.agg #[.slice ao zs.length cap, .int .i64 (t.1.1 : Nat), .int .i64 t.1.2], .slice ao' t.2.length ca']) ∧ OwnsI B w' ao' ca' t.2 ∧ w.grownBy w' (blk aa) ∧ ∀ g, blk ao' = some g → blk aa = some g ∨ w.heap.size ≤ g
set_option maxRecDepth 100000 in
set_option maxHeartbeats 12800000 in
/-- From the loop on, for one number of rounds. -/
theorem l5Repeat_any (ao : Option Addr) (cap : Nat) (zs : List Int) (i : Nat) (aa : Option Addr) (ca : Nat) (all : List Int) (x B : Nat) (w : World) (hr : Row w ao zs) (hz : Octets zs) (hzl : zs.length ≤ 65536) (hi : i ≤ 8 * zs.length) (ho : OwnsI B w aa ca all) (hB : B ≤ w.heap.size) (hx : x < 19) (hal : all.length ≤ 1000) :
    Calls Tryz.prog 39 #[.agg #[.slice ao zs.length cap, .int .i64 (i : Nat), .int .i64 0], .slice aa all.length ca, .int .i64 (x : Nat)] w fun e w' => RepPost zs ao cap aa B (rpt zs (i, 0) all x) e w w' := by
  obtain ⟨i0, hi0, hz0, hz1, hz2⟩ := info_parts Tryz.info_i64d
  have HTK : Hid (∀ W n cl, Below w.heap.size w W → n ≤ 32 → Calls Tryz.prog 21 #[.agg #[.slice ao zs.length cap, .int .i64 (i : Nat), .int .i64 cl], .int .i64 (n : Nat)] W fun e w' => e = .returned (.tuple #[.agg #[.slice ao zs.length cap, .int .i64 ((tk zs (i, cl) n).1.1 : Nat), .int .i64 (tk zs (i, cl) n).1.2], .int .i64 ((tk zs (i, cl) n).2 : Nat)]) ∧ Below W.heap.size W w') := fun W n cl hW hn => l5Take_any ao cap zs i n cl W (hr.below hW) hz hzl hi hn
  have HZ : Hid (∀ n cl, n ≤ 7 → (tk zs (i, cl) n).2 ≤ 127) := by
    intro n cl hn
    unfold tk
    dsimp only
    split
    · split
      · have := field_small (bnum zs) i n hn
        dsimp only
        omega
      · exact Nat.zero_le _
    · exact Nat.zero_le _
  have HO := hideM ho
  have HLIE := hideM ho.lies
  clear hr hz ho
  obtain ⟨t, ht⟩ : ∃ t, rpt zs (i, 0) all x = t := ⟨_, rfl⟩
  rw [ht]
  unfold rpt at ht
  unfold RepPost
  generalize hZ : zs.length = Z at *
  have HZL := hideM hZ
  clear hZ
  have B1 : Hid (L5m ((w.alloc (.cells #[.slice ao Z cap, .int .i64 (i : Nat), .int .i64 0] 33)).alloc (.cells #[.slice none 0 0, .int .i64 0, .int .i64 0] 33)) w.heap.size (.slice ao Z cap) (i : Nat) 0) := (l5m_new w (.slice ao Z cap) (i : Nat) 0 33).below ((Below.refl _ _).alloc (Nat.le_refl _) _)
  have R1 : Hid (L5m ((w.alloc (.cells #[.slice ao Z cap, .int .i64 (i : Nat), .int .i64 0] 33)).alloc (.cells #[.slice none 0 0, .int .i64 0, .int .i64 0] 33)) (w.heap.size + 1) (.slice none 0 0) 0 0) := by
    have h := l5m_new (w.alloc (.cells #[.slice ao Z cap, .int .i64 (i : Nat), .int .i64 0] 33)) (.slice none 0 0) 0 0 33
    rw [World.size_alloc] at h
    exact h
  have L1 : Hid (Below w.heap.size w ((w.alloc (.cells #[.slice ao Z cap, .int .i64 (i : Nat), .int .i64 0] 33)).alloc (.cells #[.slice none 0 0, .int .i64 0, .int .i64 0] 33))) := ((Below.refl _ _).alloc (Nat.le_refl _) _).alloc (by simp) _
  go_enter Tryz.func39, Tryz.ntmps39
  by_cases x16 : x = 16
  · have e16 : ((x : Int) == 16) = true := by simp; omega
    have e17 : ((x : Int) == 17) = false := by simp; omega
    have e18 : ((x : Int) == 18) = false := by simp; omega
    rw [if_pos x16] at ht
    clear x16 hx
    by_cases h0 : all.length = 0
    · have hb0 : ((all.length : Int) == 0) = true := by simp [h0]
      rw [show decide (all.length = 0) = true from decide_eq_true h0, show bdP (i, 0) true = (i, 3) from rfl, tk_no (show (3 : Int) ≠ 0 by decide)] at ht
      dsimp only at ht
      have HL0 := hideM h0
      clear h0
      go_wp2_with fail
      refine Calls.mono (l5Bad_any ao Z cap i 0 true _) ?_
      rintro e w1 ⟨rfl, hb1⟩
      rw [show bdP (i, 0) true = (i, 3) from rfl]
      dsimp only
      have B0 := hideM (B1.out.below hb1)
      have R0 := hideM (R1.out.below hb1)
      have L0 := hideM (L1.out.trans (hb1.mono L1.out.size))
      clear hb1 B1 R1 L1
      have E0 := hideM (B0.out.set (.slice ao Z cap) (i : Nat) 3)
      have B1 := hideM E0.out.1
      have R1 := hideM (R0.out.grown E0.out.2 (by simp))
      have L1 := hideM (L0.out.grown E0.out.2 (by have := B0.out.lt; omega) (by intro k e; simp at e; omega))
      obtain ⟨b0, b1, b2, bf⟩ := B0.out
      have bf0 := bf 0
      have bf1 := bf 1
      have bf2 := bf 2
      have z1 := B0.out.lt
      clear bf
      go_upto_region 5 with fail
      clear b0 b1 b2 bf0 bf1 bf2 z1 E0 B0 R0 L0
      generalize ((w1.setCell ⟨w.heap.size, 0, none⟩ (.slice ao Z cap)).setCell ⟨w.heap.size, 1, none⟩ (.int .i64 (i : Nat))).setCell ⟨w.heap.size, 2, none⟩ (.int .i64 3) = W1 at *
      obtain ⟨b0, b1, b2, bf⟩ := B1.out
      have z1 := B1.out.lt
      clear bf
      go_wp2_with fail
      refine Calls.mono (HTK.out _ 2 3 L1.out (by decide)) ?_
      rintro e w2 ⟨rfl, hb2⟩
      rw [tk_no (show (i, (3 : Int)).2 ≠ 0 by show (3 : Int) ≠ 0; decide)]
      dsimp only
      have B2 := hideM (B1.out.below hb2)
      have R2 := hideM (R1.out.below hb2)
      have L2 := hideM (L1.out.trans (hb2.mono L1.out.size))
      clear hb2 B1 R1 L1 b0 b1 b2 z1
      have E3 := hideM (B2.out.set (.slice ao Z cap) (i : Nat) 3)
      have BW := hideM E3.out.1
      have RW := hideM (R2.out.grown E3.out.2 (by simp))
      have LW := hideM (L2.out.grown E3.out.2 (by have := B2.out.lt; omega) (by intro k e; simp at e; omega))
      obtain ⟨b0, b1, b2, bf⟩ := B2.out
      have bf0 := bf 0
      have bf1 := bf 1
      have bf2 := bf 2
      have z1 := B2.out.lt
      clear bf
      go_upto_region 18 with fail
      clear b0 b1 b2 bf0 bf1 bf2 z1 E3 B2 R2 L2
      generalize ((w2.setCell ⟨w.heap.size, 0, none⟩ (.slice ao Z cap)).setCell ⟨w.heap.size, 1, none⟩ (.int .i64 (i : Nat))).setCell ⟨w.heap.size, 2, none⟩ (.int .i64 3) = W at *
      have HTT : Hid (t = ((i, 3), all)) := by
        show _ = _
        first | exact ht.symm | (rw [← ht]; rfl)
      clear ht
      have OX := hideM (HO.out.below LW.out)
      have GX := hideM (grownBy_of_below LW.out (blk aa))
      have KX : Hid (∀ g, blk aa = some g → blk aa = some g ∨ w.heap.size + 2 ≤ g) := fun g e => .inl e
      have BX := BW
      have RX := RW
      clear BW RW LW
      go_loopw [1, 10] (fun v kk wr => v = .slice aa all.length ca ∧ kk = .int .i64 0 ∧ wr = W) (fun _ _ _ => 0)
      case atStart => exact ⟨rfl, rfl, rfl⟩
      case round =>
        obtain ⟨rfl, rfl, rfl⟩ := hrel
        obtain ⟨r0, r1, r2, rf⟩ := RX.out
        have rf0 := rf 0
        have rf1 := rf 1
        have rf2 := rf 2
        obtain ⟨b0, b1, b2, bf⟩ := BX.out
        have z1 := BX.out.lt
        have z3 := RX.out.lt
        clear bf rf
        have E9 := hideM (RX.out.set (.slice ao Z cap) (i : Nat) 3)
        have G9 := hideM (grownBy_row GX.out E9.out.2 (fun g e => by simp at e; right; omega))
        have O9 := hideM (OX.out.grown E9.out.2 (fun g e he => by simp at e; subst e; exact (KX.out _ he).elim (fun h => absurd (HLIE.out _ h) (by omega)) (fun h => absurd h (by omega))))
        go_wp2_with fail
        obtain ⟨⟨y0, y1, y2, _⟩, _⟩ := E9.out
        rw [HTT.out]
        exact bodyPost_ret (v := .tuple #[.agg #[.slice ao Z cap, .int .i64 (i : Nat), .int .i64 3], .slice aa all.length ca]) (by simp [results, Tryz.results39, go_sem, y0, y1, y2]) rfl ⟨aa, ca, rfl, O9.out, G9.out, fun g e => orR (KX.out g e) (fun h => by omega)⟩
    · have hb0 : ((all.length : Int) == 0) = false := by simp [h0]
      rw [show decide (all.length = 0) = false from decide_eq_false h0, show bdP (i, 0) false = (i, 0) from rfl] at ht
      have h1 : 0 < all.length := by omega
      obtain ⟨ga, hag, hgB, hgw, hgc⟩ := HO.out.at h1
      obtain ⟨vv, hv⟩ : ∃ vv : Int, all.getD (all.length - 1) 0 = vv := ⟨_, rfl⟩
      have hcv : w.cell? ⟨ga, all.length - 1, none⟩ = some (.int .i64 vv) := by
        rw [← hv]
        have hh := HO.out
        rw [hag] at hh
        exact hh.cell (by omega)
      rw [hv] at ht
      obtain ⟨k, hk⟩ : ∃ k : Nat, all.length - 1 = k := ⟨_, rfl⟩
      rw [hk] at hcv
      have hki : ((all.length : Int) - 1) = (k : Int) := by omega
      have hkl : k < all.length := by omega
      have HAG := hideM hag
      have HCV := hideM (fun W (hW : Below w.heap.size w W) => (hW.cell (p := ⟨ga, k, none⟩) hgw).trans hcv)
      clear hv hk h0 hag hcv
      go_wp2_with fail
      refine Calls.mono (l5Bad_any ao Z cap i 0 false _) ?_
      rintro e w1 ⟨rfl, hb1⟩
      rw [show bdP (i, 0) false = (i, 0) from rfl]
      dsimp only
      have B0 := hideM (B1.out.below hb1)
      have R0 := hideM (R1.out.below hb1)
      have L0 := hideM (L1.out.trans (hb1.mono L1.out.size))
      clear hb1 B1 R1 L1
      have E0 := hideM (B0.out.set (.slice ao Z cap) (i : Nat) 0)
      have B1 := hideM E0.out.1
      have R1 := hideM (R0.out.grown E0.out.2 (by simp))
      have L1 := hideM (L0.out.grown E0.out.2 (by have := B0.out.lt; omega) (by intro k e; simp at e; omega))
      obtain ⟨b0, b1, b2, bf⟩ := B0.out
      have bf0 := bf 0
      have bf1 := bf 1
      have bf2 := bf 2
      have z1 := B0.out.lt
      clear bf
      go_upto_region 5 with fail
      clear b0 b1 b2 bf0 bf1 bf2 z1 E0 B0 R0 L0
      generalize ((w1.setCell ⟨w.heap.size, 0, none⟩ (.slice ao Z cap)).setCell ⟨w.heap.size, 1, none⟩ (.int .i64 (i : Nat))).setCell ⟨w.heap.size, 2, none⟩ (.int .i64 0) = W1 at *
      obtain ⟨b0, b1, b2, bf⟩ := B1.out
      have z1 := B1.out.lt
      clear bf
      go_wp2_with fail
      refine Calls.mono (HTK.out _ 2 0 L1.out (by decide)) ?_
      rintro e w2 ⟨rfl, hb2⟩
      have B2 := hideM (B1.out.below hb2)
      have R2 := hideM (R1.out.below hb2)
      have L2 := hideM (L1.out.trans (hb2.mono L1.out.size))
      clear hb2 B1 R1 L1
      by_cases hb : i + 2 ≤ 8 * Z
      · obtain ⟨I, hI⟩ : ∃ I : Nat, i + 2 = I := ⟨_, rfl⟩
        have htk : tk zs (i, 0) 2 = ((I, 0), field (bnum zs) i 2) := by unfold tk; rw [if_pos rfl, HZL.out, if_pos hb, ← hI]
        clear hI
        have hτ := HZ.out 2 0 (by decide)
        rw [htk] at ht hτ ⊢
        dsimp only at ht hτ ⊢
        generalize field (bnum zs) i 2 = τ at *
        have E3 := hideM (B2.out.set (.slice ao Z cap) (I : Nat) 0)
        have BW := hideM E3.out.1
        have RW := hideM (R2.out.grown E3.out.2 (by simp))
        have LW := hideM (L2.out.grown E3.out.2 (by have := B2.out.lt; omega) (by intro k e; simp at e; omega))
        obtain ⟨b0, b1, b2, bf⟩ := B2.out
        have bf0 := bf 0
        have bf1 := bf 1
        have bf2 := bf 2
        have z1 := B2.out.lt
        clear bf htk
        have hcv := HCV.out w2 L2.out
        have hag := HAG.out
        subst hag
        have hgw2 : ga < w2.heap.size := World.block_lt_of_cell? w2 _ hcv
        have hgne : ¬ ga = w.heap.size := by omega
        go_upto_region 18 with fail
        clear b0 b1 b2 bf0 bf1 bf2 z1 E3 B2 R2 L2
        generalize ((w2.setCell ⟨w.heap.size, 0, none⟩ (.slice ao Z cap)).setCell ⟨w.heap.size, 1, none⟩ (.int .i64 (I : Nat))).setCell ⟨w.heap.size, 2, none⟩ (.int .i64 0) = W at *
        have HTT : Hid (t = ((I, 0), all ++ List.replicate (τ + 3) vv)) := by
          show _ = _
          first | exact ht.symm | (rw [← ht]; rfl)
        clear ht
        have OW := hideM (HO.out.below LW.out)
        go_loopw [1, 10] (fun v kk wr => ∃ (j : Nat) (a1 : Option Addr) (c1 : Nat), j ≤ (τ + 3) ∧ kk = .int .i64 (j : Nat) ∧ v = .slice a1 (all ++ List.replicate j vv).length c1 ∧ Hid (OwnsI B wr a1 c1 (all ++ List.replicate j vv)) ∧ Hid (L5m wr w.heap.size (.slice ao Z cap) (I : Nat) 0) ∧ Hid (L5m wr (w.heap.size + 1) (.slice none 0 0) 0 0) ∧ Hid (w.grownBy wr (blk (some ⟨ga, 0, none⟩))) ∧ Hid (∀ g, blk a1 = some g → blk (some ⟨ga, 0, none⟩) = some g ∨ w.heap.size + 2 ≤ g)) (fun _ kk _ => (τ + 3) - (intOf kk).toNat)
        case atStart => exact ⟨0, (some ⟨ga, 0, none⟩), ca, Nat.zero_le _, rfl, by simp, by simpa using OW, BW, RW, grownBy_of_below LW.out _, fun g e => .inl e⟩
        case round =>
          clear BW RW LW OW
          obtain ⟨j, a1, c1, hj, rfl, rfl, OX, BX, RX, GX, KX⟩ := hrel
          have hlen : (all ++ List.replicate j vv).length = all.length + j := by simp
          by_cases hlt : j < (τ + 3)
          · have hlti : ((j : Int) < ((τ : Int) + 3)) := by omega
            have HNX : Hid (all ++ List.replicate (j + 1) vv = (all ++ List.replicate j vv) ++ [vv]) := by show _ = _; rw [List.replicate_succ', List.append_assoc]
            generalize all ++ List.replicate j vv = U at *
            have HO2 := hideM (fun A t => OX.out.grown (World.grownBy_alloc wr (.cells A t) none) (by intro j e; cases e))
            have HN := hideM (news_one wr (.int .i64 vv) 2)
            have hszw := GX.out.size
            have hszr := RX.out.lt
            obtain ⟨b0, b1, b2, bf⟩ := BX.out
            have z1 := BX.out.lt
            clear bf
            go_wp2_with (at_builtin; refine wpList_append_cells2 _ rfl _ _ 55 rfl B 2 i0 (.int .i64 0) 1 8 Tryz.underlying55 hi0 hz0 hz1 hz2 rfl (by decide) (.slice a1 U.length c1) U.length (U.map (Value.int .i64)) rfl (HO2.out _ _) ⟨wr.heap.size, 0, none⟩ 1 1 [.int .i64 vv] rfl rfl HN.out (by intro u hu; simp at hu; subst hu; rfl) (by unfold maxLen; omega) (by omega) (by simp; omega) ?_)
            intro v4 w4 hown hgrow hblk
            rw [show U.map (Value.int .i64) ++ [Value.int .i64 vv] = (U ++ [vv]).map (Value.int .i64) from by simp] at hown
            obtain ⟨a4, c4, rfl, ho4⟩ := OwnsI.of hown
            rw [blk_own64] at hgrow
            rw [blk_own64, blk_own64] at hblk
            have hp1 : some w.heap.size ≠ blk a1 := by
              intro e
              rcases KX.out _ e.symm with h | h
              · have := HLIE.out _ h; omega
              · omega
            have hp2 : some (w.heap.size + 1) ≠ blk a1 := by
              intro e
              rcases KX.out _ e.symm with h | h
              · have := HLIE.out _ h; omega
              · omega
            have B4 := hideM ((BX.out.grown (World.grownBy_alloc wr _ none) (by simp)).grown hgrow hp1)
            have R4 := hideM ((RX.out.grown (World.grownBy_alloc wr _ none) (by simp)).grown hgrow hp2)
            have G4 := hideM (grownBy_row (grownBy_row GX.out (World.grownBy_alloc wr _ none) (fun g e => by cases e)) hgrow (fun g e => orR (KX.out g e) (fun h => by omega)))
            have K4 : Hid (∀ g, blk a4 = some g → blk (some ⟨ga, 0, none⟩) = some g ∨ w.heap.size + 2 ≤ g) := by
              intro g e
              rcases hblk with h | h
              · rw [h] at e; exact KX.out g e
              · rw [h] at e
                simp at e
                right
                omega
            have O4 := hideM ho4
            clear hown hgrow hblk hp1 hp2 ho4 HO2 HN b0 b1 b2 z1
            go_wp2_with fail
            go_roundw
            case rel => exact ⟨j + 1, a4, c4, by omega, by go_num, by rw [HNX.out], by rw [HNX.out]; exact O4, B4, R4, G4, K4⟩
            case measure => simp [intOf]; omega
          · have hlti : ¬ ((j : Int) < ((τ : Int) + 3)) := by omega
            have hlti2 : decide ((j : Int) < ((τ : Int) + 3)) = false := decide_eq_false hlti
            have hje : j = (τ + 3) := by omega
            rw [hje] at OX ⊢
            clear hlt hlen
            have HJ := hideM hje
            generalize hU : all ++ List.replicate ((τ + 3)) vv = U at *
            clear hU hje
            obtain ⟨r0, r1, r2, rf⟩ := RX.out
            have rf0 := rf 0
            have rf1 := rf 1
            have rf2 := rf 2
            obtain ⟨b0, b1, b2, bf⟩ := BX.out
            have z1 := BX.out.lt
            have z3 := RX.out.lt
            clear bf rf
            have E9 := hideM (RX.out.set (.slice ao Z cap) (I : Nat) 0)
            have G9 := hideM (grownBy_row GX.out E9.out.2 (fun g e => by simp at e; right; omega))
            have O9 := hideM (OX.out.grown E9.out.2 (fun g e he => by simp at e; subst e; exact (KX.out _ he).elim (fun h => absurd (HLIE.out _ h) (by omega)) (fun h => absurd h (by omega))))
            go_wp2_with fail
            obtain ⟨⟨y0, y1, y2, _⟩, _⟩ := E9.out
            rw [HTT.out]
            exact bodyPost_ret (v := .tuple #[.agg #[.slice ao Z cap, .int .i64 (I : Nat), .int .i64 0], .slice a1 U.length c1]) (by simp [results, Tryz.results39, go_sem, y0, y1, y2]) rfl ⟨a1, c1, rfl, O9.out, G9.out, fun g e => orR (KX.out g e) (fun h => by omega)⟩
      · have htk : tk zs (i, 0) 2 = ((i, 2), 0) := by unfold tk; rw [if_pos rfl, HZL.out, if_neg hb]
        rw [htk] at ht ⊢
        dsimp only at ht ⊢
        have E3 := hideM (B2.out.set (.slice ao Z cap) (i : Nat) 2)
        have BW := hideM E3.out.1
        have RW := hideM (R2.out.grown E3.out.2 (by simp))
        have LW := hideM (L2.out.grown E3.out.2 (by have := B2.out.lt; omega) (by intro k e; simp at e; omega))
        obtain ⟨b0, b1, b2, bf⟩ := B2.out
        have bf0 := bf 0
        have bf1 := bf 1
        have bf2 := bf 2
        have z1 := B2.out.lt
        clear bf htk
        go_upto_region 18 with fail
        clear b0 b1 b2 bf0 bf1 bf2 z1 E3 B2 R2 L2
        generalize ((w2.setCell ⟨w.heap.size, 0, none⟩ (.slice ao Z cap)).setCell ⟨w.heap.size, 1, none⟩ (.int .i64 (i : Nat))).setCell ⟨w.heap.size, 2, none⟩ (.int .i64 2) = W at *
        have HTT : Hid (t = ((i, 2), all)) := by
          show _ = _
          first | exact ht.symm | (rw [← ht]; rfl)
        clear ht
        have OX := hideM (HO.out.below LW.out)
        have GX := hideM (grownBy_of_below LW.out (blk aa))
        have KX : Hid (∀ g, blk aa = some g → blk aa = some g ∨ w.heap.size + 2 ≤ g) := fun g e => .inl e
        have BX := BW
        have RX := RW
        clear BW RW LW
        go_loopw [1, 10] (fun v kk wr => v = .slice aa all.length ca ∧ kk = .int .i64 0 ∧ wr = W) (fun _ _ _ => 0)
        case atStart => exact ⟨rfl, rfl, rfl⟩
        case round =>
          obtain ⟨rfl, rfl, rfl⟩ := hrel
          obtain ⟨r0, r1, r2, rf⟩ := RX.out
          have rf0 := rf 0
          have rf1 := rf 1
          have rf2 := rf 2
          obtain ⟨b0, b1, b2, bf⟩ := BX.out
          have z1 := BX.out.lt
          have z3 := RX.out.lt
          clear bf rf
          have E9 := hideM (RX.out.set (.slice ao Z cap) (i : Nat) 2)
          have G9 := hideM (grownBy_row GX.out E9.out.2 (fun g e => by simp at e; right; omega))
          have O9 := hideM (OX.out.grown E9.out.2 (fun g e he => by simp at e; subst e; exact (KX.out _ he).elim (fun h => absurd (HLIE.out _ h) (by omega)) (fun h => absurd h (by omega))))
          go_wp2_with fail
          obtain ⟨⟨y0, y1, y2, _⟩, _⟩ := E9.out
          rw [HTT.out]
          exact bodyPost_ret (v := .tuple #[.agg #[.slice ao Z cap, .int .i64 (i : Nat), .int .i64 2], .slice aa all.length ca]) (by simp [results, Tryz.results39, go_sem, y0, y1, y2]) rfl ⟨aa, ca, rfl, O9.out, G9.out, fun g e => orR (KX.out g e) (fun h => by omega)⟩

  · by_cases x17 : x = 17
    · have e16 : ((x : Int) == 16) = false := by simp; omega
      have e17 : ((x : Int) == 17) = true := by simp; omega
      have e18 : ((x : Int) == 18) = false := by simp; omega
      rw [if_neg x16, if_pos x17] at ht
      clear x16 x17 hx
      go_wp2_with fail
      refine Calls.mono (HTK.out _ 3 0 L1.out (by decide)) ?_
      rintro e w2 ⟨rfl, hb2⟩
      have B2 := hideM (B1.out.below hb2)
      have R2 := hideM (R1.out.below hb2)
      have L2 := hideM (L1.out.trans (hb2.mono L1.out.size))
      clear hb2 B1 R1 L1
      by_cases hb : i + 3 ≤ 8 * Z
      · obtain ⟨I, hI⟩ : ∃ I : Nat, i + 3 = I := ⟨_, rfl⟩
        have htk : tk zs (i, 0) 3 = ((I, 0), field (bnum zs) i 3) := by unfold tk; rw [if_pos rfl, HZL.out, if_pos hb, ← hI]
        clear hI
        have hτ := HZ.out 3 0 (by decide)
        rw [htk] at ht hτ ⊢
        dsimp only at ht hτ ⊢
        generalize field (bnum zs) i 3 = τ at *
        have E3 := hideM (B2.out.set (.slice ao Z cap) (I : Nat) 0)
        have BW := hideM E3.out.1
        have RW := hideM (R2.out.grown E3.out.2 (by simp))
        have LW := hideM (L2.out.grown E3.out.2 (by have := B2.out.lt; omega) (by intro k e; simp at e; omega))
        obtain ⟨b0, b1, b2, bf⟩ := B2.out
        have bf0 := bf 0
        have bf1 := bf 1
        have bf2 := bf 2
        have z1 := B2.out.lt
        clear bf htk
        go_upto_region 18 with fail
        clear b0 b1 b2 bf0 bf1 bf2 z1 E3 B2 R2 L2
        generalize ((w2.setCell ⟨w.heap.size, 0, none⟩ (.slice ao Z cap)).setCell ⟨w.heap.size, 1, none⟩ (.int .i64 (I : Nat))).setCell ⟨w.heap.size, 2, none⟩ (.int .i64 0) = W at *
        have HTT : Hid (t = ((I, 0), all ++ List.replicate (τ + 3) 0)) := by
          show _ = _
          first | exact ht.symm | (rw [← ht]; rfl)
        clear ht
        have OW := hideM (HO.out.below LW.out)
        go_loopw [1, 10] (fun v kk wr => ∃ (j : Nat) (a1 : Option Addr) (c1 : Nat), j ≤ (τ + 3) ∧ kk = .int .i64 (j : Nat) ∧ v = .slice a1 (all ++ List.replicate j 0).length c1 ∧ Hid (OwnsI B wr a1 c1 (all ++ List.replicate j 0)) ∧ Hid (L5m wr w.heap.size (.slice ao Z cap) (I : Nat) 0) ∧ Hid (L5m wr (w.heap.size + 1) (.slice none 0 0) 0 0) ∧ Hid (w.grownBy wr (blk aa)) ∧ Hid (∀ g, blk a1 = some g → blk aa = some g ∨ w.heap.size + 2 ≤ g)) (fun _ kk _ => (τ + 3) - (intOf kk).toNat)
        case atStart => exact ⟨0, aa, ca, Nat.zero_le _, rfl, by simp, by simpa using OW, BW, RW, grownBy_of_below LW.out _, fun g e => .inl e⟩
        case round =>
          clear BW RW LW OW
          obtain ⟨j, a1, c1, hj, rfl, rfl, OX, BX, RX, GX, KX⟩ := hrel
          have hlen : (all ++ List.replicate j 0).length = all.length + j := by simp
          by_cases hlt : j < (τ + 3)
          · have hlti : ((j : Int) < ((τ : Int) + 3)) := by omega
            have HNX : Hid (all ++ List.replicate (j + 1) 0 = (all ++ List.replicate j 0) ++ [0]) := by show _ = _; rw [List.replicate_succ', List.append_assoc]
            generalize all ++ List.replicate j 0 = U at *
            have HO2 := hideM (fun A t => OX.out.grown (World.grownBy_alloc wr (.cells A t) none) (by intro j e; cases e))
            have HN := hideM (news_one wr (.int .i64 0) 2)
            have hszw := GX.out.size
            have hszr := RX.out.lt
            obtain ⟨b0, b1, b2, bf⟩ := BX.out
            have z1 := BX.out.lt
            clear bf
            go_wp2_with (at_builtin; refine wpList_append_cells2 _ rfl _ _ 55 rfl B 2 i0 (.int .i64 0) 1 8 Tryz.underlying55 hi0 hz0 hz1 hz2 rfl (by decide) (.slice a1 U.length c1) U.length (U.map (Value.int .i64)) rfl (HO2.out _ _) ⟨wr.heap.size, 0, none⟩ 1 1 [.int .i64 0] rfl rfl HN.out (by intro u hu; simp at hu; subst hu; rfl) (by unfold maxLen; omega) (by omega) (by simp; omega) ?_)
            intro v4 w4 hown hgrow hblk
            rw [show U.map (Value.int .i64) ++ [Value.int .i64 0] = (U ++ [0]).map (Value.int .i64) from by simp] at hown
            obtain ⟨a4, c4, rfl, ho4⟩ := OwnsI.of hown
            rw [blk_own64] at hgrow
            rw [blk_own64, blk_own64] at hblk
            have hp1 : some w.heap.size ≠ blk a1 := by
              intro e
              rcases KX.out _ e.symm with h | h
              · have := HLIE.out _ h; omega
              · omega
            have hp2 : some (w.heap.size + 1) ≠ blk a1 := by
              intro e
              rcases KX.out _ e.symm with h | h
              · have := HLIE.out _ h; omega
              · omega
            have B4 := hideM ((BX.out.grown (World.grownBy_alloc wr _ none) (by simp)).grown hgrow hp1)
            have R4 := hideM ((RX.out.grown (World.grownBy_alloc wr _ none) (by simp)).grown hgrow hp2)
            have G4 := hideM (grownBy_row (grownBy_row GX.out (World.grownBy_alloc wr _ none) (fun g e => by cases e)) hgrow (fun g e => orR (KX.out g e) (fun h => by omega)))
            have K4 : Hid (∀ g, blk a4 = some g → blk aa = some g ∨ w.heap.size + 2 ≤ g) := by
              intro g e
              rcases hblk with h | h
              · rw [h] at e; exact KX.out g e
              · rw [h] at e
                simp at e
                right
                omega
            have O4 := hideM ho4
            clear hown hgrow hblk hp1 hp2 ho4 HO2 HN b0 b1 b2 z1
            go_wp2_with fail
            go_roundw
            case rel => exact ⟨j + 1, a4, c4, by omega, by go_num, by rw [HNX.out], by rw [HNX.out]; exact O4, B4, R4, G4, K4⟩
            case measure => simp [intOf]; omega
          · have hlti : ¬ ((j : Int) < ((τ : Int) + 3)) := by omega
            have hlti2 : decide ((j : Int) < ((τ : Int) + 3)) = false := decide_eq_false hlti
            have hje : j = (τ + 3) := by omega
            rw [hje] at OX ⊢
            clear hlt hlen
            have HJ := hideM hje
            generalize hU : all ++ List.replicate ((τ + 3)) 0 = U at *
            clear hU hje
            obtain ⟨r0, r1, r2, rf⟩ := RX.out
            have rf0 := rf 0
            have rf1 := rf 1
            have rf2 := rf 2
            obtain ⟨b0, b1, b2, bf⟩ := BX.out
            have z1 := BX.out.lt
            have z3 := RX.out.lt
            clear bf rf
            have E9 := hideM (RX.out.set (.slice ao Z cap) (I : Nat) 0)
            have G9 := hideM (grownBy_row GX.out E9.out.2 (fun g e => by simp at e; right; omega))
            have O9 := hideM (OX.out.grown E9.out.2 (fun g e he => by simp at e; subst e; exact (KX.out _ he).elim (fun h => absurd (HLIE.out _ h) (by omega)) (fun h => absurd h (by omega))))
            go_wp2_with fail
            obtain ⟨⟨y0, y1, y2, _⟩, _⟩ := E9.out
            rw [HTT.out]
            exact bodyPost_ret (v := .tuple #[.agg #[.slice ao Z cap, .int .i64 (I : Nat), .int .i64 0], .slice a1 U.length c1]) (by simp [results, Tryz.results39, go_sem, y0, y1, y2]) rfl ⟨a1, c1, rfl, O9.out, G9.out, fun g e => orR (KX.out g e) (fun h => by omega)⟩
      · have htk : tk zs (i, 0) 3 = ((i, 2), 0) := by unfold tk; rw [if_pos rfl, HZL.out, if_neg hb]
        rw [htk] at ht ⊢
        dsimp only at ht ⊢
        have E3 := hideM (B2.out.set (.slice ao Z cap) (i : Nat) 2)
        have BW := hideM E3.out.1
        have RW := hideM (R2.out.grown E3.out.2 (by simp))
        have LW := hideM (L2.out.grown E3.out.2 (by have := B2.out.lt; omega) (by intro k e; simp at e; omega))
        obtain ⟨b0, b1, b2, bf⟩ := B2.out
        have bf0 := bf 0
        have bf1 := bf 1
        have bf2 := bf 2
        have z1 := B2.out.lt
        clear bf htk
        go_upto_region 18 with fail
        clear b0 b1 b2 bf0 bf1 bf2 z1 E3 B2 R2 L2
        generalize ((w2.setCell ⟨w.heap.size, 0, none⟩ (.slice ao Z cap)).setCell ⟨w.heap.size, 1, none⟩ (.int .i64 (i : Nat))).setCell ⟨w.heap.size, 2, none⟩ (.int .i64 2) = W at *
        have HTT : Hid (t = ((i, 2), all)) := by
          show _ = _
          first | exact ht.symm | (rw [← ht]; rfl)
        clear ht
        have OX := hideM (HO.out.below LW.out)
        have GX := hideM (grownBy_of_below LW.out (blk aa))
        have KX : Hid (∀ g, blk aa = some g → blk aa = some g ∨ w.heap.size + 2 ≤ g) := fun g e => .inl e
        have BX := BW
        have RX := RW
        clear BW RW LW
        go_loopw [1, 10] (fun v kk wr => v = .slice aa all.length ca ∧ kk = .int .i64 0 ∧ wr = W) (fun _ _ _ => 0)
        case atStart => exact ⟨rfl, rfl, rfl⟩
        case round =>
          obtain ⟨rfl, rfl, rfl⟩ := hrel
          obtain ⟨r0, r1, r2, rf⟩ := RX.out
          have rf0 := rf 0
          have rf1 := rf 1
          have rf2 := rf 2
          obtain ⟨b0, b1, b2, bf⟩ := BX.out
          have z1 := BX.out.lt
          have z3 := RX.out.lt
          clear bf rf
          have E9 := hideM (RX.out.set (.slice ao Z cap) (i : Nat) 2)
          have G9 := hideM (grownBy_row GX.out E9.out.2 (fun g e => by simp at e; right; omega))
          have O9 := hideM (OX.out.grown E9.out.2 (fun g e he => by simp at e; subst e; exact (KX.out _ he).elim (fun h => absurd (HLIE.out _ h) (by omega)) (fun h => absurd h (by omega))))
          go_wp2_with fail
          obtain ⟨⟨y0, y1, y2, _⟩, _⟩ := E9.out
          rw [HTT.out]
          exact bodyPost_ret (v := .tuple #[.agg #[.slice ao Z cap, .int .i64 (i : Nat), .int .i64 2], .slice aa all.length ca]) (by simp [results, Tryz.results39, go_sem, y0, y1, y2]) rfl ⟨aa, ca, rfl, O9.out, G9.out, fun g e => orR (KX.out g e) (fun h => by omega)⟩

    · by_cases x18 : x = 18
      · have e16 : ((x : Int) == 16) = false := by simp; omega
        have e17 : ((x : Int) == 17) = false := by simp; omega
        have e18 : ((x : Int) == 18) = true := by simp; omega
        rw [if_neg x16, if_neg x17, if_pos x18] at ht
        clear x16 x17 x18 hx
        go_wp2_with fail
        refine Calls.mono (HTK.out _ 7 0 L1.out (by decide)) ?_
        rintro e w2 ⟨rfl, hb2⟩
        have B2 := hideM (B1.out.below hb2)
        have R2 := hideM (R1.out.below hb2)
        have L2 := hideM (L1.out.trans (hb2.mono L1.out.size))
        clear hb2 B1 R1 L1
        by_cases hb : i + 7 ≤ 8 * Z
        · obtain ⟨I, hI⟩ : ∃ I : Nat, i + 7 = I := ⟨_, rfl⟩
          have htk : tk zs (i, 0) 7 = ((I, 0), field (bnum zs) i 7) := by unfold tk; rw [if_pos rfl, HZL.out, if_pos hb, ← hI]
          clear hI
          have hτ := HZ.out 7 0 (by decide)
          rw [htk] at ht hτ ⊢
          dsimp only at ht hτ ⊢
          generalize field (bnum zs) i 7 = τ at *
          have E3 := hideM (B2.out.set (.slice ao Z cap) (I : Nat) 0)
          have BW := hideM E3.out.1
          have RW := hideM (R2.out.grown E3.out.2 (by simp))
          have LW := hideM (L2.out.grown E3.out.2 (by have := B2.out.lt; omega) (by intro k e; simp at e; omega))
          obtain ⟨b0, b1, b2, bf⟩ := B2.out
          have bf0 := bf 0
          have bf1 := bf 1
          have bf2 := bf 2
          have z1 := B2.out.lt
          clear bf htk
          go_upto_region 18 with fail
          clear b0 b1 b2 bf0 bf1 bf2 z1 E3 B2 R2 L2
          generalize ((w2.setCell ⟨w.heap.size, 0, none⟩ (.slice ao Z cap)).setCell ⟨w.heap.size, 1, none⟩ (.int .i64 (I : Nat))).setCell ⟨w.heap.size, 2, none⟩ (.int .i64 0) = W at *
          have HTT : Hid (t = ((I, 0), all ++ List.replicate (τ + 11) 0)) := by
            show _ = _
            first | exact ht.symm | (rw [← ht]; rfl)
          clear ht
          have OW := hideM (HO.out.below LW.out)
          go_loopw [1, 10] (fun v kk wr => ∃ (j : Nat) (a1 : Option Addr) (c1 : Nat), j ≤ (τ + 11) ∧ kk = .int .i64 (j : Nat) ∧ v = .slice a1 (all ++ List.replicate j 0).length c1 ∧ Hid (OwnsI B wr a1 c1 (all ++ List.replicate j 0)) ∧ Hid (L5m wr w.heap.size (.slice ao Z cap) (I : Nat) 0) ∧ Hid (L5m wr (w.heap.size + 1) (.slice none 0 0) 0 0) ∧ Hid (w.grownBy wr (blk aa)) ∧ Hid (∀ g, blk a1 = some g → blk aa = some g ∨ w.heap.size + 2 ≤ g)) (fun _ kk _ => (τ + 11) - (intOf kk).toNat)
          case atStart => exact ⟨0, aa, ca, Nat.zero_le _, rfl, by simp, by simpa using OW, BW, RW, grownBy_of_below LW.out _, fun g e => .inl e⟩
          case round =>
            clear BW RW LW OW
            obtain ⟨j, a1, c1, hj, rfl, rfl, OX, BX, RX, GX, KX⟩ := hrel
            have hlen : (all ++ List.replicate j 0).length = all.length + j := by simp
            by_cases hlt : j < (τ + 11)
            · have hlti : ((j : Int) < ((τ : Int) + 11)) := by omega
              have HNX : Hid (all ++ List.replicate (j + 1) 0 = (all ++ List.replicate j 0) ++ [0]) := by show _ = _; rw [List.replicate_succ', List.append_assoc]
              generalize all ++ List.replicate j 0 = U at *
              have HO2 := hideM (fun A t => OX.out.grown (World.grownBy_alloc wr (.cells A t) none) (by intro j e; cases e))
              have HN := hideM (news_one wr (.int .i64 0) 2)
              have hszw := GX.out.size
              have hszr := RX.out.lt
              obtain ⟨b0, b1, b2, bf⟩ := BX.out
              have z1 := BX.out.lt
              clear bf
              go_wp2_with (at_builtin; refine wpList_append_cells2 _ rfl _ _ 55 rfl B 2 i0 (.int .i64 0) 1 8 Tryz.underlying55 hi0 hz0 hz1 hz2 rfl (by decide) (.slice a1 U.length c1) U.length (U.map (Value.int .i64)) rfl (HO2.out _ _) ⟨wr.heap.size, 0, none⟩ 1 1 [.int .i64 0] rfl rfl HN.out (by intro u hu; simp at hu; subst hu; rfl) (by unfold maxLen; omega) (by omega) (by simp; omega) ?_)
              intro v4 w4 hown hgrow hblk
              rw [show U.map (Value.int .i64) ++ [Value.int .i64 0] = (U ++ [0]).map (Value.int .i64) from by simp] at hown
              obtain ⟨a4, c4, rfl, ho4⟩ := OwnsI.of hown
              rw [blk_own64] at hgrow
              rw [blk_own64, blk_own64] at hblk
              have hp1 : some w.heap.size ≠ blk a1 := by
                intro e
                rcases KX.out _ e.symm with h | h
                · have := HLIE.out _ h; omega
                · omega
              have hp2 : some (w.heap.size + 1) ≠ blk a1 := by
                intro e
                rcases KX.out _ e.symm with h | h
                · have := HLIE.out _ h; omega
                · omega
              have B4 := hideM ((BX.out.grown (World.grownBy_alloc wr _ none) (by simp)).grown hgrow hp1)
              have R4 := hideM ((RX.out.grown (World.grownBy_alloc wr _ none) (by simp)).grown hgrow hp2)
              have G4 := hideM (grownBy_row (grownBy_row GX.out (World.grownBy_alloc wr _ none) (fun g e => by cases e)) hgrow (fun g e => orR (KX.out g e) (fun h => by omega)))
              have K4 : Hid (∀ g, blk a4 = some g → blk aa = some g ∨ w.heap.size + 2 ≤ g) := by
                intro g e
                rcases hblk with h | h
                · rw [h] at e; exact KX.out g e
                · rw [h] at e
                  simp at e
                  right
                  omega
              have O4 := hideM ho4
              clear hown hgrow hblk hp1 hp2 ho4 HO2 HN b0 b1 b2 z1
              go_wp2_with fail
              go_roundw
              case rel => exact ⟨j + 1, a4, c4, by omega, by go_num, by rw [HNX.out], by rw [HNX.out]; exact O4, B4, R4, G4, K4⟩
              case measure => simp [intOf]; omega
            · have hlti : ¬ ((j : Int) < ((τ : Int) + 11)) := by omega
              have hlti2 : decide ((j : Int) < ((τ : Int) + 11)) = false := decide_eq_false hlti
              have hje : j = (τ + 11) := by omega
              rw [hje] at OX ⊢
              clear hlt hlen
              have HJ := hideM hje
              generalize hU : all ++ List.replicate ((τ + 11)) 0 = U at *
              clear hU hje
              obtain ⟨r0, r1, r2, rf⟩ := RX.out
              have rf0 := rf 0
              have rf1 := rf 1
              have rf2 := rf 2
              obtain ⟨b0, b1, b2, bf⟩ := BX.out
              have z1 := BX.out.lt
              have z3 := RX.out.lt
              clear bf rf
              have E9 := hideM (RX.out.set (.slice ao Z cap) (I : Nat) 0)
              have G9 := hideM (grownBy_row GX.out E9.out.2 (fun g e => by simp at e; right; omega))
              have O9 := hideM (OX.out.grown E9.out.2 (fun g e he => by simp at e; subst e; exact (KX.out _ he).elim (fun h => absurd (HLIE.out _ h) (by omega)) (fun h => absurd h (by omega))))
              go_wp2_with fail
              obtain ⟨⟨y0, y1, y2, _⟩, _⟩ := E9.out
              rw [HTT.out]
              exact bodyPost_ret (v := .tuple #[.agg #[.slice ao Z cap, .int .i64 (I : Nat), .int .i64 0], .slice a1 U.length c1]) (by simp [results, Tryz.results39, go_sem, y0, y1, y2]) rfl ⟨a1, c1, rfl, O9.out, G9.out, fun g e => orR (KX.out g e) (fun h => by omega)⟩
        · have htk : tk zs (i, 0) 7 = ((i, 2), 0) := by unfold tk; rw [if_pos rfl, HZL.out, if_neg hb]
          rw [htk] at ht ⊢
          dsimp only at ht ⊢
          have E3 := hideM (B2.out.set (.slice ao Z cap) (i : Nat) 2)
          have BW := hideM E3.out.1
          have RW := hideM (R2.out.grown E3.out.2 (by simp))
          have LW := hideM (L2.out.grown E3.out.2 (by have := B2.out.lt; omega) (by intro k e; simp at e; omega))
          obtain ⟨b0, b1, b2, bf⟩ := B2.out
          have bf0 := bf 0
          have bf1 := bf 1
          have bf2 := bf 2
          have z1 := B2.out.lt
          clear bf htk
          go_upto_region 18 with fail
          clear b0 b1 b2 bf0 bf1 bf2 z1 E3 B2 R2 L2
          generalize ((w2.setCell ⟨w.heap.size, 0, none⟩ (.slice ao Z cap)).setCell ⟨w.heap.size, 1, none⟩ (.int .i64 (i : Nat))).setCell ⟨w.heap.size, 2, none⟩ (.int .i64 2) = W at *
          have HTT : Hid (t = ((i, 2), all)) := by
            show _ = _
            first | exact ht.symm | (rw [← ht]; rfl)
          clear ht
          have OX := hideM (HO.out.below LW.out)
          have GX := hideM (grownBy_of_below LW.out (blk aa))
          have KX : Hid (∀ g, blk aa = some g → blk aa = some g ∨ w.heap.size + 2 ≤ g) := fun g e => .inl e
          have BX := BW
          have RX := RW
          clear BW RW LW
          go_loopw [1, 10] (fun v kk wr => v = .slice aa all.length ca ∧ kk = .int .i64 0 ∧ wr = W) (fun _ _ _ => 0)
          case atStart => exact ⟨rfl, rfl, rfl⟩
          case round =>
            obtain ⟨rfl, rfl, rfl⟩ := hrel
            obtain ⟨r0, r1, r2, rf⟩ := RX.out
            have rf0 := rf 0
            have rf1 := rf 1
            have rf2 := rf 2
            obtain ⟨b0, b1, b2, bf⟩ := BX.out
            have z1 := BX.out.lt
            have z3 := RX.out.lt
            clear bf rf
            have E9 := hideM (RX.out.set (.slice ao Z cap) (i : Nat) 2)
            have G9 := hideM (grownBy_row GX.out E9.out.2 (fun g e => by simp at e; right; omega))
            have O9 := hideM (OX.out.grown E9.out.2 (fun g e he => by simp at e; subst e; exact (KX.out _ he).elim (fun h => absurd (HLIE.out _ h) (by omega)) (fun h => absurd h (by omega))))
            go_wp2_with fail
            obtain ⟨⟨y0, y1, y2, _⟩, _⟩ := E9.out
            rw [HTT.out]
            exact bodyPost_ret (v := .tuple #[.agg #[.slice ao Z cap, .int .i64 (i : Nat), .int .i64 2], .slice aa all.length ca]) (by simp [results, Tryz.results39, go_sem, y0, y1, y2]) rfl ⟨aa, ca, rfl, O9.out, G9.out, fun g e => orR (KX.out g e) (fun h => by omega)⟩

      · have e16 : ((x : Int) == 16) = false := by simp; omega
        have e17 : ((x : Int) == 17) = false := by simp; omega
        have e18 : ((x : Int) == 18) = false := by simp; omega
        rw [if_neg x16, if_neg x17, if_neg x18] at ht
        clear x16 x17 x18 hx
        go_upto_region 18 with fail
        rw [show ups (i, 0) all (x : Nat) 1 = all ++ List.replicate 1 ((x : Nat) : Int) from rfl] at ht
        have BW := B1
        have RW := R1
        have LW := L1
        clear B1 R1 L1
        generalize (w.alloc (.cells #[.slice ao Z cap, .int .i64 (i : Nat), .int .i64 0] 33)).alloc (.cells #[.slice none 0 0, .int .i64 0, .int .i64 0] 33) = W at *
        have HTT : Hid (t = ((i, 0), all ++ List.replicate 1 ((x : Nat) : Int))) := by
          show _ = _
          first | exact ht.symm | (rw [← ht]; rfl)
        clear ht
        have OW := hideM (HO.out.below LW.out)
        go_loopw [1, 10] (fun v kk wr => ∃ (j : Nat) (a1 : Option Addr) (c1 : Nat), j ≤ 1 ∧ kk = .int .i64 (j : Nat) ∧ v = .slice a1 (all ++ List.replicate j ((x : Nat) : Int)).length c1 ∧ Hid (OwnsI B wr a1 c1 (all ++ List.replicate j ((x : Nat) : Int))) ∧ Hid (L5m wr w.heap.size (.slice ao Z cap) (i : Nat) 0) ∧ Hid (L5m wr (w.heap.size + 1) (.slice none 0 0) 0 0) ∧ Hid (w.grownBy wr (blk aa)) ∧ Hid (∀ g, blk a1 = some g → blk aa = some g ∨ w.heap.size + 2 ≤ g)) (fun _ kk _ => 1 - (intOf kk).toNat)
        case atStart => exact ⟨0, aa, ca, Nat.zero_le _, rfl, by simp, by simpa using OW, BW, RW, grownBy_of_below LW.out _, fun g e => .inl e⟩
        case round =>
          clear BW RW LW OW
          obtain ⟨j, a1, c1, hj, rfl, rfl, OX, BX, RX, GX, KX⟩ := hrel
          have hlen : (all ++ List.replicate j ((x : Nat) : Int)).length = all.length + j := by simp
          by_cases hlt : j < 1
          · have hlti : ((j : Int) < (1 : Int)) := by omega
            have HNX : Hid (all ++ List.replicate (j + 1) ((x : Nat) : Int) = (all ++ List.replicate j ((x : Nat) : Int)) ++ [((x : Nat) : Int)]) := by show _ = _; rw [List.replicate_succ', List.append_assoc]
            generalize all ++ List.replicate j ((x : Nat) : Int) = U at *
            have HO2 := hideM (fun A t => OX.out.grown (World.grownBy_alloc wr (.cells A t) none) (by intro j e; cases e))
            have HN := hideM (news_one wr (.int .i64 ((x : Nat) : Int)) 2)
            have hszw := GX.out.size
            have hszr := RX.out.lt
            obtain ⟨b0, b1, b2, bf⟩ := BX.out
            have z1 := BX.out.lt
            clear bf
            go_wp2_with (at_builtin; refine wpList_append_cells2 _ rfl _ _ 55 rfl B 2 i0 (.int .i64 0) 1 8 Tryz.underlying55 hi0 hz0 hz1 hz2 rfl (by decide) (.slice a1 U.length c1) U.length (U.map (Value.int .i64)) rfl (HO2.out _ _) ⟨wr.heap.size, 0, none⟩ 1 1 [.int .i64 ((x : Nat) : Int)] rfl rfl HN.out (by intro u hu; simp at hu; subst hu; rfl) (by unfold maxLen; omega) (by omega) (by simp; omega) ?_)
            intro v4 w4 hown hgrow hblk
            rw [show U.map (Value.int .i64) ++ [Value.int .i64 ((x : Nat) : Int)] = (U ++ [((x : Nat) : Int)]).map (Value.int .i64) from by simp] at hown
            obtain ⟨a4, c4, rfl, ho4⟩ := OwnsI.of hown
            rw [blk_own64] at hgrow
            rw [blk_own64, blk_own64] at hblk
            have hp1 : some w.heap.size ≠ blk a1 := by
              intro e
              rcases KX.out _ e.symm with h | h
              · have := HLIE.out _ h; omega
              · omega
            have hp2 : some (w.heap.size + 1) ≠ blk a1 := by
              intro e
              rcases KX.out _ e.symm with h | h
              · have := HLIE.out _ h; omega
              · omega
            have B4 := hideM ((BX.out.grown (World.grownBy_alloc wr _ none) (by simp)).grown hgrow hp1)
            have R4 := hideM ((RX.out.grown (World.grownBy_alloc wr _ none) (by simp)).grown hgrow hp2)
            have G4 := hideM (grownBy_row (grownBy_row GX.out (World.grownBy_alloc wr _ none) (fun g e => by cases e)) hgrow (fun g e => orR (KX.out g e) (fun h => by omega)))
            have K4 : Hid (∀ g, blk a4 = some g → blk aa = some g ∨ w.heap.size + 2 ≤ g) := by
              intro g e
              rcases hblk with h | h
              · rw [h] at e; exact KX.out g e
              · rw [h] at e
                simp at e
                right
                omega
            have O4 := hideM ho4
            clear hown hgrow hblk hp1 hp2 ho4 HO2 HN b0 b1 b2 z1
            go_wp2_with fail
            go_roundw
            case rel => exact ⟨j + 1, a4, c4, by omega, by go_num, by rw [HNX.out], by rw [HNX.out]; exact O4, B4, R4, G4, K4⟩
            case measure => simp [intOf]; omega
          · have hlti : ¬ ((j : Int) < (1 : Int)) := by omega
            have hlti2 : decide ((j : Int) < (1 : Int)) = false := decide_eq_false hlti
            have hje : j = 1 := by omega
            rw [hje] at OX ⊢
            clear hlt hlen
            have HJ := hideM hje
            generalize hU : all ++ List.replicate (1) ((x : Nat) : Int) = U at *
            clear hU hje
            obtain ⟨r0, r1, r2, rf⟩ := RX.out
            have rf0 := rf 0
            have rf1 := rf 1
            have rf2 := rf 2
            obtain ⟨b0, b1, b2, bf⟩ := BX.out
            have z1 := BX.out.lt
            have z3 := RX.out.lt
            clear bf rf
            have E9 := hideM (RX.out.set (.slice ao Z cap) (i : Nat) 0)
            have G9 := hideM (grownBy_row GX.out E9.out.2 (fun g e => by simp at e; right; omega))
            have O9 := hideM (OX.out.grown E9.out.2 (fun g e he => by simp at e; subst e; exact (KX.out _ he).elim (fun h => absurd (HLIE.out _ h) (by omega)) (fun h => absurd h (by omega))))
            go_wp2_with fail
            obtain ⟨⟨y0, y1, y2, _⟩, _⟩ := E9.out
            rw [HTT.out]
            exact bodyPost_ret (v := .tuple #[.agg #[.slice ao Z cap, .int .i64 (i : Nat), .int .i64 0], .slice a1 U.length c1]) (by simp [results, Tryz.results39, go_sem, y0, y1, y2]) rfl ⟨a1, c1, rfl, O9.out, G9.out, fun g e => orR (KX.out g e) (fun h => by omega)⟩
end Go.Proofs.YtlfabilmilkboaaGreatDoor
