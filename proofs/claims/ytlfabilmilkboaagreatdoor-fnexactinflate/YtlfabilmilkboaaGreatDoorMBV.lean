import Derived.Deep.RegionWith
import Derived.Deep.CutRange
import Derived.Deep.LoopGhost
import Derived.Test.YtlfabilmilkboaaGreatDoorMBM
namespace Go.Proofs.YtlfabilmilkboaaGreatDoor
open Go.RowKit
attribute [local go_sem ↓] Go.wp_at_zero Go.wp_at_succ
set_option linter.unusedVariables false

theorem tk_le {zs : List Int} {r : RR} {n : Nat} (h : r.1 ≤ 8 * zs.length) : (tk zs r n).1.1 ≤ 8 * zs.length := by
  unfold tk
  split
  · split
    · rename_i h1; exact h1
    · exact h
  · exact h
theorem tk_lt (zs : List Int) (r : RR) (n : Nat) : (tk zs r n).2 < 2 ^ n := by
  have h0 : 0 < 2 ^ n := Nat.two_pow_pos n
  unfold tk
  split
  · split
    · exact field_lt _ _ _
    · exact h0
  · exact h0
theorem bdP_fst (r : RR) (p : Bool) : (bdP r p).1 = r.1 := by unfold bdP; split <;> rfl
theorem sy_le {zs tb : List Int} {r : RR} (h : r.1 ≤ 8 * zs.length) : (sy zs r tb).1.1 ≤ 8 * zs.length := by
  unfold sy
  split
  · have h1 := @nx3_len tb (field (bnum zs) r.1 (lkn zs r.1)) (lkn zs r.1)
    have h2 : lkn zs r.1 ≤ 8 * zs.length - r.1 := Nat.min_le_left _ _
    dsimp only
    omega
  · exact h
theorem sy_sym {zs tb : List Int} {r : RR} (h0 : r.2 = 0) (h1 : (sy zs r tb).1.2 = 0) : (sy zs r tb).2 < tb.length := by
  unfold sy at h1 ⊢
  rw [if_pos h0] at h1 ⊢
  dsimp only at h1 ⊢
  rcases nx3_kinds tb (field (bnum zs) r.1 (lkn zs r.1)) (lkn zs r.1) with h | h | h
  · rw [h, if_neg (by decide), if_pos rfl] at h1; exact absurd h1 (by decide)
  · exact (nx3_sym h).1
  · rw [h, if_pos rfl] at h1; exact absurd h1 (by decide)
theorem rpt_le {zs all : List Int} {r : RR} {x : Nat} (h : r.1 ≤ 8 * zs.length) : (rpt zs r all x).1.1 ≤ 8 * zs.length := by
  unfold rpt
  split
  · exact tk_le (by rw [bdP_fst]; exact h)
  · split
    · exact tk_le h
    · split
      · exact tk_le h
      · exact h
theorem ups_len (r : RR) (all : List Int) (v : Int) (t : Nat) : (ups r all v t).length ≤ all.length + t := by
  unfold ups; split <;> simp
theorem rpt_len (zs all : List Int) (r : RR) (x : Nat) : (rpt zs r all x).2.length ≤ all.length + 138 := by
  unfold rpt
  split
  · refine Nat.le_trans (ups_len _ _ _ _) ?_
    have := tk_lt zs (bdP r (decide (all.length = 0))) 2
    omega
  · split
    · refine Nat.le_trans (ups_len _ _ _ _) ?_
      have := tk_lt zs r 3
      omega
    · split
      · refine Nat.le_trans (ups_len _ _ _ _) ?_
        have := tk_lt zs r 7
        omega
      · refine Nat.le_trans (ups_len _ _ _ _) ?_
        omega
theorem RowH.grownL {B n : Nat} {w w' : World} {row : Option Nat} {ao : Option Addr} {F : Nat → Nat × Nat} (h : RowH B w ao n F) (hg : w.grownBy w' row) (hne : ∀ k, row = some k → k < B) : RowH B w' ao n F := fun h0 => by
  obtain ⟨g, h1, h2, h3⟩ := h h0
  exact ⟨g, h1, h2, h3.grown hg (fun e => by have := hne g e.symm; omega)⟩
theorem hk_okC {zs : List Int} (h : hk zs = 1) : okC zs = true := by
  have ho : okB zs = true := by
    cases hb : okB zs with
    | true => rfl
    | false =>
      unfold hk at h
      rw [hb, if_neg (by decide)] at h
      exact absurd h (by decide)
  unfold okC
  rw [h, ho]
  rfl
theorem At.weak {zs : List Int} {k : Int} {cf : LC} {s : Nat} {r : RR} {P Q : LC → Prop} (h : At zs k cf s r P) (hq : ∀ c, P c → Q c) : At zs k cf s r Q :=
  ⟨h.no, fun e => by obtain ⟨c, h1, h2, h3, h4, h5⟩ := h.yes e; exact ⟨c, h1, h2, h3, h4, hq c h5⟩⟩
theorem own19 (w : World) (B : Nat) (hB : B ≤ w.heap.size) : OwnsI B (w.alloc (.cells #[.int .i64 0, .int .i64 0, .int .i64 0, .int .i64 0, .int .i64 0, .int .i64 0, .int .i64 0, .int .i64 0, .int .i64 0, .int .i64 0, .int .i64 0, .int .i64 0, .int .i64 0, .int .i64 0, .int .i64 0, .int .i64 0, .int .i64 0, .int .i64 0, .int .i64 0] 2)) (some ⟨w.heap.size, 0, none⟩) 19 (List.replicate 19 0) :=
  World.ownsRow_lit w #[.int .i64 0, .int .i64 0, .int .i64 0, .int .i64 0, .int .i64 0, .int .i64 0, .int .i64 0, .int .i64 0, .int .i64 0, .int .i64 0, .int .i64 0, .int .i64 0, .int .i64 0, .int .i64 0, .int .i64 0, .int .i64 0, .int .i64 0, .int .i64 0, .int .i64 0] 19 hB (by unfold maxLen; omega) rfl
/-- Codes that lie between two places. -/
def CodesIn (lo hi : Nat) (w : World) (co : Option Addr) (n : Nat) (F : Nat → Nat × Nat) : Prop := 0 < n → ∃ g, co = some ⟨g, 0, none⟩ ∧ lo ≤ g ∧ g < hi ∧ Codes w g n F
theorem CodesIn.grown {lo hi n : Nat} {w w' : World} {row : Option Nat} {co : Option Addr} {F : Nat → Nat × Nat} (h : CodesIn lo hi w co n F) (hg : w.grownBy w' row) (hne : ∀ k, row = some k → k < lo ∨ hi ≤ k) : CodesIn lo hi w' co n F := fun h0 => by
  obtain ⟨g, h1, h2, h3, h4⟩ := h h0
  exact ⟨g, h1, h2, h3, h4.grown hg (fun e => by have := hne g e.symm; omega)⟩
theorem CodesIn.below {lo hi n : Nat} {w w' : World} {co : Option Addr} {F : Nat → Nat × Nat} (h : CodesIn lo hi w co n F) (hb : Below w.heap.size w w') : CodesIn lo hi w' co n F := h.grown (grownBy_of_below hb none) (fun k e => by cases e)
theorem CodesIn.reads {lo hi n : Nat} {w : World} {co : Option Addr} {F : Nat → Nat × Nat} (h : CodesIn lo hi w co n F) : Reads w co n F := fun h0 => by
  obtain ⟨g, h1, _, _, h4⟩ := h h0
  exact ⟨g, h1, h4⟩
theorem RowH.codesIn {B lo : Nat} {w : World} {co : Option Addr} {n : Nat} {F : Nat → Nat × Nat} (h : RowH B w co n F) (hB : lo ≤ B) (hlt : ∀ g, Codes w g n F → 0 < n → g < w.heap.size) : CodesIn lo w.heap.size w co n F := fun h0 => by
  obtain ⟨g, h1, h2, h3⟩ := h h0
  exact ⟨g, h1, by omega, hlt g h3 h0, h3⟩
theorem Row64.grownL {w w' : World} {row : Option Nat} {g o : Nat} {zs : List Int} (h : Row64 w (some ⟨g, o, none⟩) zs) (hg : w.grownBy w' row) (hne : some g ≠ row) : Row64 w' (some ⟨g, o, none⟩) zs := by
  intro i hi
  obtain ⟨b, off, e, hc⟩ := h i hi
  cases e
  exact ⟨g, o, rfl, (World.cell?_of_block (w := w) (a := ⟨g, o + i, none⟩) (hg.block g (World.block_lt_of_cell? w _ hc) hne)).trans hc⟩
theorem bne_dec (a b : Int) : (a != b) = decide (a ≠ b) := by
  by_cases h : a = b <;> simp [h]
/-- Where the answers lie. -/
def LensFar (B : Nat) (a1 a2 : Option Addr) : Prop := ∀ g, blk a1 = some g ∨ blk a2 = some g → B ≤ g
theorem lensFar1 {B g o p : Nat} (h : B ≤ g) : LensFar B (some ⟨g, o, none⟩) (some ⟨g, p, none⟩) := fun g' e => by
  simp [blk] at e
  omega
theorem lensFar2 {B g : Nat} (h : B ≤ g) : LensFar B (some ⟨g, 0, none⟩) (some ⟨g + 1, 0, none⟩) := fun g' e => by
  simp [blk] at e
  omega
def LensW (w w' : World) (i Z : Nat) (a1 a2 : Option Addr) : Prop := Below w.heap.size w w' ∧ i ≤ 8 * Z ∧ LensFar w.heap.size a1 a2
/-- What l5Lens answers. -/
def LensPost (zs : List Int) (ao : Option Addr) (cap : Nat) (k : Int) (cf : LC) (e : Ending) (w w' : World) : Prop :=
  ∃ (i' : Nat) (cl : Int) (a1 : Option Addr) (n1 c1 : Nat) (a2 : Option Addr) (n2 c2 : Nat), e = .returned (.tuple #[.agg #[.slice ao zs.length cap, .int .i64 (i' : Nat), .int .i64 cl], .slice a1 n1 c1, .slice a2 n2 c2]) ∧
    (k = 1 → cl = 0 ∧ i' = cf.i ∧ n1 = (cf.lens.take (cf.f 2).toNat).length ∧ n2 = (cf.lens.drop (cf.f 2).toNat).length ∧ Row64 w' a1 (cf.lens.take (cf.f 2).toNat) ∧ Row64 w' a2 (cf.lens.drop (cf.f 2).toNat)) ∧ (k ≠ 1 → cl = k) ∧ LensW w w' i' zs.length a1 a2
set_option maxRecDepth 100000 in
set_option maxHeartbeats 25600000 in
theorem l5Lens_any (ao : Option Addr) (cap : Nat) (zs : List Int) (i : Nat) (k : Int) (cf c0 : LC) (w : World) (hr : Row w ao zs) (hz : Octets zs) (hzl : zs.length ≤ 65536) (hi : i ≤ 8 * zs.length) (hc0 : c0.st = 0) (hci : c0.i = i) (he : LEnds zs c0 k cf) :
    Calls Tryz.prog 25 #[.agg #[.slice ao zs.length cap, .int .i64 (i : Nat), .int .i64 0]] w fun e w' => LensPost zs ao cap k cf e w w' := by
  have HTK : Hid (∀ W i n cl, Below w.heap.size w W → i ≤ 8 * zs.length → n ≤ 32 → Calls Tryz.prog 21 #[.agg #[.slice ao zs.length cap, .int .i64 (i : Nat), .int .i64 cl], .int .i64 (n : Nat)] W fun e w' => e = .returned (.tuple #[.agg #[.slice ao zs.length cap, .int .i64 ((tk zs (i, cl) n).1.1 : Nat), .int .i64 (tk zs (i, cl) n).1.2], .int .i64 ((tk zs (i, cl) n).2 : Nat)]) ∧ Below W.heap.size W w') := fun W i n cl hW hi hn => l5Take_any ao cap zs i n cl W (hr.below hW) hz hzl hi hn
  have HSY : Hid (∀ W i cl tb co nc cc, Below w.heap.size w W → i ≤ 8 * zs.length → (cl = 0 → okC tb = true ∧ nc = tb.length ∧ Reads W co tb.length (code tb)) → Calls Tryz.prog 38 #[.agg #[.slice ao zs.length cap, .int .i64 (i : Nat), .int .i64 cl], .slice co nc cc] W fun e w' => e = .returned (.tuple #[.agg #[.slice ao zs.length cap, .int .i64 ((sy zs (i, cl) tb).1.1 : Nat), .int .i64 (sy zs (i, cl) tb).1.2], .int .i64 ((sy zs (i, cl) tb).2 : Nat)]) ∧ Below W.heap.size W w') := fun W i cl tb co nc cc hW hi hcd => l5Sym_any ao cap zs i cl tb co nc cc W (hr.below hW) hz hzl hi hcd
  have HRP : Hid (∀ W i aa ca all x B, Below w.heap.size w W → i ≤ 8 * zs.length → OwnsI B W aa ca all → B ≤ W.heap.size → x < 19 → all.length ≤ 1000 → Calls Tryz.prog 39 #[.agg #[.slice ao zs.length cap, .int .i64 (i : Nat), .int .i64 0], .slice aa all.length ca, .int .i64 (x : Nat)] W fun e w' => RepPost zs ao cap aa B (rpt zs (i, 0) all x) e W w') := fun W i aa ca all x B hW hi ho hB hx hal => l5Repeat_any ao cap zs i aa ca all x B W (hr.below hW) hz hzl hi ho hB hx hal
  have A0 : Hid (At zs k cf 0 (i, 0) (fun _ => True)) := ⟨fun h => absurd rfl h, fun _ => ⟨c0, hc0, hci, LWell.none c0 hc0, he, trivial⟩⟩
  clear hr hz he hc0 hci
  unfold LensPost
  unfold RepPost at HRP
  generalize hZ : zs.length = Z at *
  have HZL := hideM hZ
  clear hZ
  have BW : Hid (L5m ((w.alloc (.cells #[.slice ao Z cap, .int .i64 (i : Nat), .int .i64 0] 33)).alloc (.cells #[.slice none 0 0, .int .i64 0, .int .i64 0] 33)) w.heap.size (.slice ao Z cap) (i : Nat) 0) := (l5m_new w (.slice ao Z cap) (i : Nat) 0 33).below ((Below.refl _ _).alloc (Nat.le_refl _) _)
  have RW : Hid (L5m ((w.alloc (.cells #[.slice ao Z cap, .int .i64 (i : Nat), .int .i64 0] 33)).alloc (.cells #[.slice none 0 0, .int .i64 0, .int .i64 0] 33)) (w.heap.size + 1) (.slice none 0 0) 0 0) := by
    have h := l5m_new (w.alloc (.cells #[.slice ao Z cap, .int .i64 (i : Nat), .int .i64 0] 33)) (.slice none 0 0) 0 0 33
    rw [World.size_alloc] at h
    exact h
  have LW : Hid (Below w.heap.size w ((w.alloc (.cells #[.slice ao Z cap, .int .i64 (i : Nat), .int .i64 0] 33)).alloc (.cells #[.slice none 0 0, .int .i64 0, .int .i64 0] 33))) := ((Below.refl _ _).alloc (Nat.le_refl _) _).alloc (by simp) _
  go_enter Tryz.func25, Tryz.ntmps25
  go_upto_region 5 with fail
  generalize (w.alloc (.cells #[.slice ao Z cap, .int .i64 (i : Nat), .int .i64 0] 33)).alloc (.cells #[.slice none 0 0, .int .i64 0, .int .i64 0] 33) = W at *
  obtain ⟨i1, c1, F1, hT⟩ : ∃ (xi : Nat) (xc : Int) (xF : Nat), tk zs (i, 0) 5 = ((xi, xc), xF) := ⟨_, _, _, rfl⟩
  have hi1 : i1 ≤ 8 * Z := by
    have := tk_le (zs := zs) (r := (i, 0)) (n := 5) (by rw [HZL.out]; exact hi)
    rw [hT, HZL.out] at this
    exact this
  have hF1 : F1 < 32 := by
    have := tk_lt zs (i, 0) 5
    rw [hT] at this
    exact this
  have HF1 := hideM hT
  clear hT
  obtain ⟨b0, b1, b2, bf⟩ := BW.out
  have z1 := BW.out.lt
  clear bf
  go_wp2_with fail
  clear b0 b1 b2 z1
  refine Calls.mono (HTK.out _ i 5 0 LW.out hi (by decide)) ?_
  rintro e w1 ⟨rfl, hb⟩
  rw [HF1.out]
  dsimp only
  have B' := hideM (BW.out.below hb)
  have R' := hideM (RW.out.below hb)
  have L' := hideM (LW.out.trans (hb.mono LW.out.size))
  clear hb BW RW LW 
  have E := hideM (B'.out.set (.slice ao Z cap) (i1 : Nat) c1)
  have BW := hideM E.out.1
  have RW := hideM (R'.out.grown E.out.2 (by simp))
  have LW := hideM (L'.out.grown E.out.2 (by have := B'.out.lt; omega) (by intro k e; simp at e; omega))
  obtain ⟨b0, b1, b2, bf⟩ := B'.out
  have z1 := B'.out.lt
  have bf0 := bf 0
  have bf1 := bf 1
  have bf2 := bf 2
  clear bf
  go_upto_region 7 with fail
  clear b0 b1 b2 bf0 bf1 bf2 z1 E B' R' L' 
  generalize (((w1.setCell ⟨w.heap.size, 0, none⟩ (.slice ao Z cap)).setCell ⟨w.heap.size, 1, none⟩ (.int .i64 (i1 : Nat))).setCell ⟨w.heap.size, 2, none⟩ (.int .i64 c1)) = W at *
  obtain ⟨i2, c2, hB⟩ : ∃ (xi : Nat) (xc : Int), bdP (i1, c1) (decide (286 < (F1 : Int) + 257)) = (xi, xc) := ⟨_, _, rfl⟩
  have hi2 : i2 ≤ 8 * Z := by
    have := bdP_fst (i1, c1) (decide (286 < (F1 : Int) + 257))
    rw [hB] at this
    dsimp only at this
    omega
  have Hi2 := hideM hB
  clear hB
  obtain ⟨b0, b1, b2, bf⟩ := BW.out
  have z1 := BW.out.lt
  clear bf
  go_wp2_with fail
  clear b0 b1 b2 z1
  refine Calls.mono (l5Bad_any ao Z cap i1 c1 (decide (286 < (F1 : Int) + 257)) _) ?_
  rintro e w2 ⟨rfl, hb⟩
  rw [Hi2.out]
  dsimp only
  have B' := hideM (BW.out.below hb)
  have R' := hideM (RW.out.below hb)
  have L' := hideM (LW.out.trans (hb.mono LW.out.size))
  clear hb BW RW LW 
  have E := hideM (B'.out.set (.slice ao Z cap) (i2 : Nat) c2)
  have BW := hideM E.out.1
  have RW := hideM (R'.out.grown E.out.2 (by simp))
  have LW := hideM (L'.out.grown E.out.2 (by have := B'.out.lt; omega) (by intro k e; simp at e; omega))
  obtain ⟨b0, b1, b2, bf⟩ := B'.out
  have z1 := B'.out.lt
  have bf0 := bf 0
  have bf1 := bf 1
  have bf2 := bf 2
  clear bf
  go_upto_region 8 with fail
  clear b0 b1 b2 bf0 bf1 bf2 z1 E B' R' L' 
  generalize (((w2.setCell ⟨w.heap.size, 0, none⟩ (.slice ao Z cap)).setCell ⟨w.heap.size, 1, none⟩ (.int .i64 (i2 : Nat))).setCell ⟨w.heap.size, 2, none⟩ (.int .i64 c2)) = W at *
  have A1 := hideM (at_lit A0.out)
  rw [HF1.out] at A1
  dsimp only at A1
  rw [Hi2.out] at A1
  obtain ⟨i3, c3, F2, hT⟩ : ∃ (xi : Nat) (xc : Int) (xF : Nat), tk zs (i2, c2) 5 = ((xi, xc), xF) := ⟨_, _, _, rfl⟩
  have hi3 : i3 ≤ 8 * Z := by
    have := tk_le (zs := zs) (r := (i2, c2)) (n := 5) (by rw [HZL.out]; exact hi2)
    rw [hT, HZL.out] at this
    exact this
  have hF2 : F2 < 32 := by
    have := tk_lt zs (i2, c2) 5
    rw [hT] at this
    exact this
  have HF2 := hideM hT
  clear hT
  obtain ⟨b0, b1, b2, bf⟩ := BW.out
  have z1 := BW.out.lt
  clear bf
  go_wp2_with fail
  clear b0 b1 b2 z1
  refine Calls.mono (HTK.out _ i2 5 c2 LW.out hi2 (by decide)) ?_
  rintro e w3 ⟨rfl, hb⟩
  rw [HF2.out]
  dsimp only
  have B' := hideM (BW.out.below hb)
  have R' := hideM (RW.out.below hb)
  have L' := hideM (LW.out.trans (hb.mono LW.out.size))
  clear hb BW RW LW 
  have E := hideM (B'.out.set (.slice ao Z cap) (i3 : Nat) c3)
  have BW := hideM E.out.1
  have RW := hideM (R'.out.grown E.out.2 (by simp))
  have LW := hideM (L'.out.grown E.out.2 (by have := B'.out.lt; omega) (by intro k e; simp at e; omega))
  obtain ⟨b0, b1, b2, bf⟩ := B'.out
  have z1 := B'.out.lt
  have bf0 := bf 0
  have bf1 := bf 1
  have bf2 := bf 2
  clear bf
  go_upto_region 10 with fail
  clear b0 b1 b2 bf0 bf1 bf2 z1 E B' R' L' 
  generalize (((w3.setCell ⟨w.heap.size, 0, none⟩ (.slice ao Z cap)).setCell ⟨w.heap.size, 1, none⟩ (.int .i64 (i3 : Nat))).setCell ⟨w.heap.size, 2, none⟩ (.int .i64 c3)) = W at *
  obtain ⟨i4, c4, hB⟩ : ∃ (xi : Nat) (xc : Int), bdP (i3, c3) (decide (30 < (F2 : Int) + 1)) = (xi, xc) := ⟨_, _, rfl⟩
  have hi4 : i4 ≤ 8 * Z := by
    have := bdP_fst (i3, c3) (decide (30 < (F2 : Int) + 1))
    rw [hB] at this
    dsimp only at this
    omega
  have Hi4 := hideM hB
  clear hB
  obtain ⟨b0, b1, b2, bf⟩ := BW.out
  have z1 := BW.out.lt
  clear bf
  go_wp2_with fail
  clear b0 b1 b2 z1
  refine Calls.mono (l5Bad_any ao Z cap i3 c3 (decide (30 < (F2 : Int) + 1)) _) ?_
  rintro e w4 ⟨rfl, hb⟩
  rw [Hi4.out]
  dsimp only
  have B' := hideM (BW.out.below hb)
  have R' := hideM (RW.out.below hb)
  have L' := hideM (LW.out.trans (hb.mono LW.out.size))
  clear hb BW RW LW 
  have E := hideM (B'.out.set (.slice ao Z cap) (i4 : Nat) c4)
  have BW := hideM E.out.1
  have RW := hideM (R'.out.grown E.out.2 (by simp))
  have LW := hideM (L'.out.grown E.out.2 (by have := B'.out.lt; omega) (by intro k e; simp at e; omega))
  obtain ⟨b0, b1, b2, bf⟩ := B'.out
  have z1 := B'.out.lt
  have bf0 := bf 0
  have bf1 := bf 1
  have bf2 := bf 2
  clear bf
  go_upto_region 11 with fail
  clear b0 b1 b2 bf0 bf1 bf2 z1 E B' R' L' 
  generalize (((w4.setCell ⟨w.heap.size, 0, none⟩ (.slice ao Z cap)).setCell ⟨w.heap.size, 1, none⟩ (.int .i64 (i4 : Nat))).setCell ⟨w.heap.size, 2, none⟩ (.int .i64 c4)) = W at *
  have A2 := hideM (at_dist A1.out)
  rw [HF2.out] at A2
  dsimp only at A2
  rw [Hi4.out] at A2
  obtain ⟨i5, c5, F3, hT⟩ : ∃ (xi : Nat) (xc : Int) (xF : Nat), tk zs (i4, c4) 4 = ((xi, xc), xF) := ⟨_, _, _, rfl⟩
  have hi5 : i5 ≤ 8 * Z := by
    have := tk_le (zs := zs) (r := (i4, c4)) (n := 4) (by rw [HZL.out]; exact hi4)
    rw [hT, HZL.out] at this
    exact this
  have hF3 : F3 < 16 := by
    have := tk_lt zs (i4, c4) 4
    rw [hT] at this
    exact this
  have HF3 := hideM hT
  clear hT
  obtain ⟨b0, b1, b2, bf⟩ := BW.out
  have z1 := BW.out.lt
  clear bf
  go_wp2_with fail
  clear b0 b1 b2 z1
  refine Calls.mono (HTK.out _ i4 4 c4 LW.out hi4 (by decide)) ?_
  rintro e w5 ⟨rfl, hb⟩
  rw [HF3.out]
  dsimp only
  have B' := hideM (BW.out.below hb)
  have R' := hideM (RW.out.below hb)
  have L' := hideM (LW.out.trans (hb.mono LW.out.size))
  clear hb BW RW LW 
  have E := hideM (B'.out.set (.slice ao Z cap) (i5 : Nat) c5)
  have BW := hideM E.out.1
  have RW := hideM (R'.out.grown E.out.2 (by simp))
  have LW := hideM (L'.out.grown E.out.2 (by have := B'.out.lt; omega) (by intro k e; simp at e; omega))
  obtain ⟨b0, b1, b2, bf⟩ := B'.out
  have z1 := B'.out.lt
  have bf0 := bf 0
  have bf1 := bf 1
  have bf2 := bf 2
  clear bf
  go_upto_region 12 with fail
  clear b0 b1 b2 bf0 bf1 bf2 z1 E B' R' L' 
  generalize (((w5.setCell ⟨w.heap.size, 0, none⟩ (.slice ao Z cap)).setCell ⟨w.heap.size, 1, none⟩ (.int .i64 (i5 : Nat))).setCell ⟨w.heap.size, 2, none⟩ (.int .i64 c5)) = W at *
  have A3 := hideM (at_code A2.out)
  rw [HF3.out] at A3
  dsimp only at A3
  clear A0 A1 A2 HF1 HF2 HF3 Hi2 Hi4 hi hi1 hi2 hi3 hi4
  have SW := hideM (own19 W (w.heap.size + 2) (by have := RW.out.lt; omega))
  have b6 : Below W.heap.size W (W.alloc (.cells #[.int .i64 0, .int .i64 0, .int .i64 0, .int .i64 0, .int .i64 0, .int .i64 0, .int .i64 0, .int .i64 0, .int .i64 0, .int .i64 0, .int .i64 0, .int .i64 0, .int .i64 0, .int .i64 0, .int .i64 0, .int .i64 0, .int .i64 0, .int .i64 0, .int .i64 0] 2)) := (Below.refl _ _).alloc (Nat.le_refl _) _
  have B6 := hideM (BW.out.below b6)
  have R6 := hideM (RW.out.below b6)
  have L6 := hideM (LW.out.trans (b6.mono LW.out.size))
  have hgs : w.heap.size + 1 < W.heap.size := RW.out.lt
  clear b6 BW RW LW
  have BW := B6
  have RW := R6
  have LW := L6
  clear B6 R6 L6
  go_upto_region 13 with fail
  obtain ⟨gs, hgse⟩ : ∃ g, W.heap.size = g := ⟨_, rfl⟩
  rw [hgse] at SW hgs ⊢
  generalize W.alloc (.cells #[.int .i64 0, .int .i64 0, .int .i64 0, .int .i64 0, .int .i64 0, .int .i64 0, .int .i64 0, .int .i64 0, .int .i64 0, .int .i64 0, .int .i64 0, .int .i64 0, .int .i64 0, .int .i64 0, .int .i64 0, .int .i64 0, .int .i64 0, .int .i64 0, .int .i64 0] 2) = W6 at *
  clear hgse
  have A3' : Hid (At zs k cf 3 (i5, c5) (fun c => c.f 2 = (F1 : Int) + 257 ∧ c.f 3 = (F2 : Int) + 1 ∧ c.f 4 = ((F3 + 4 : Nat) : Int) ∧ c.f 24 = ((0 : Nat) : Int) ∧ cl19 c.f = List.replicate 19 0)) := A3.out.weak (fun c h => ⟨h.1, h.2.1, by rw [h.2.2.1]; omega, h.2.2.2.1, h.2.2.2.2⟩)
  clear A3
  go_upto_region 14 with fail
  go_loopw [8, 10] (fun x kk wr => ∃ (X : Int) (j i' : Nat) (c' : Int) (small : List Int), x = .int .i64 X ∧ kk = .int .i64 (j : Nat) ∧ j ≤ F3 + 4 ∧ i' ≤ 8 * Z ∧ Hid (small.length = 19) ∧ Hid (L5m wr w.heap.size (.slice ao Z cap) (i' : Nat) c') ∧ Hid (L5m wr (w.heap.size + 1) (.slice none 0 0) 0 0) ∧ Hid (Below w.heap.size w wr) ∧ Hid (OwnsI (w.heap.size + 2) wr (some ⟨gs, 0, none⟩) 19 small) ∧ Hid (j < F3 + 4 → At zs k cf 3 (i', c') (fun c => c.f 2 = (F1 : Int) + 257 ∧ c.f 3 = (F2 : Int) + 1 ∧ c.f 4 = ((F3 + 4 : Nat) : Int) ∧ c.f 24 = (j : Int) ∧ cl19 c.f = small)) ∧ Hid (j = F3 + 4 → At zs k cf 4 (bdP (i', c') (decide (hk small ≠ 1))) (fun c => c.f 2 = (F1 : Int) + 257 ∧ c.f 3 = (F2 : Int) + 1 ∧ c.tb = small ∧ c.lens = []))) (fun _ kk _ => F3 + 4 - (intOf kk).toNat)
  case atStart => exact ⟨0, 0, i5, c5, List.replicate 19 0, rfl, rfl, Nat.zero_le _, hi5, rfl, BW, RW, LW, SW, (fun _ => A3'.out), (fun h => by omega)⟩
  case round =>
    clear BW RW LW SW A3'
    obtain ⟨X, j, i', c', small, rfl, rfl, hj, hi', HSL, BW, RW, LW, SW, HA, HE⟩ := hrel
    by_cases hlt : j < F3 + 4
    · have hlti : ((j : Int) < (F3 : Int) + 4) := by omega
      obtain ⟨i6, c6, F4, hT⟩ : ∃ (xi : Nat) (xc : Int) (xF : Nat), tk zs (i', c') 3 = ((xi, xc), xF) := ⟨_, _, _, rfl⟩
      have hi6 : i6 ≤ 8 * Z := by
        have := tk_le (zs := zs) (r := (i', c')) (n := 3) (by rw [HZL.out]; exact hi')
        rw [hT, HZL.out] at this
        exact this
      have hF4 : F4 < 8 := by
        have := tk_lt zs (i', c') 3
        rw [hT] at this
        exact this
      have HF4 := hideM hT
      clear hT
      obtain ⟨b0, b1, b2, bf⟩ := BW.out
      have z1 := BW.out.lt
      clear bf
      go_wp2_with fail
      clear b0 b1 b2 z1
      refine Calls.mono (HTK.out _ i' 3 c' LW.out hi' (by decide)) ?_
      rintro e w6 ⟨rfl, hb⟩
      rw [HF4.out]
      dsimp only
      have B' := hideM (BW.out.below hb)
      have R' := hideM (RW.out.below hb)
      have L' := hideM (LW.out.trans (hb.mono LW.out.size))
      have SW' := hideM (SW.out.below hb)
      clear hb BW RW LW SW
      have E := hideM (B'.out.set (.slice ao Z cap) (i6 : Nat) c6)
      have BW := hideM E.out.1
      have RW := hideM (R'.out.grown E.out.2 (by simp))
      have LW := hideM (L'.out.grown E.out.2 (by have := B'.out.lt; omega) (by intro k e; simp at e; omega))
      have SW := hideM (SW'.out.grown E.out.2 (fun g e he => by have := SW'.out.base g he; simp at e; omega))
      obtain ⟨b0, b1, b2, bf⟩ := B'.out
      have z1 := B'.out.lt
      have bf0 := bf 0
      have bf1 := bf 1
      have bf2 := bf 2
      clear bf
      go_upto_region 17 with fail
      clear b0 b1 b2 bf0 bf1 bf2 z1 E B' R' L' SW'
      generalize (((w6.setCell ⟨w.heap.size, 0, none⟩ (.slice ao Z cap)).setCell ⟨w.heap.size, 1, none⟩ (.int .i64 (i6 : Nat))).setCell ⟨w.heap.size, 2, none⟩ (.int .i64 c6)) = W7 at *
      have hAT := at_len (HA.out hlt) hlt (by omega)
      rw [HF4.out] at hAT
      dsimp only at hAT
      have HAT := hideM hAT
      clear hAT HA HE HF4
      go_wp2_with fail
      refine Calls.mono (l5Order_any _) ?_
      rintro e w8 ⟨g, rfl, hcs, hg, hb⟩
      have hcg := hcs j (by omega)
      have ho := ord19_le j (by omega)
      obtain ⟨o, hoe⟩ : ∃ o, ord19 j = o := ⟨_, rfl⟩
      rw [hoe] at HAT hcg ho
      have B8 := hideM (BW.out.below hb)
      have R8 := hideM (RW.out.below hb)
      have L8 := hideM (LW.out.trans (hb.mono LW.out.size))
      have S8 := hideM (SW.out.below hb)
      have hgw : g < w8.heap.size := World.block_lt_of_cell? w8 _ hcg
      have hgsg : gs ≠ g := by have := SW.out.lies gs rfl; omega
      have hgw8 : gs < w8.heap.size := S8.out.lies gs rfl
      clear hcs hg hb hoe BW RW LW SW
      have hco := S8.out.cell (k := o) (by rw [HSL.out]; exact ho)
      have hfo := S8.out.free o
      have V9 := hideM (grownBy_setCell w8 ⟨gs, o, none⟩ (.int .i64 (F4 : Nat)))
      have B9 := hideM (B8.out.grown V9.out (by simp; omega))
      have R9 := hideM (R8.out.grown V9.out (by simp; omega))
      have L9 := hideM (L8.out.grown V9.out (by have := B8.out.lt; omega) (by intro k e; simp at e; omega))
      have S9 := hideM (S8.out.set o (F4 : Nat))
      have HSL9 : Hid ((small.set o (F4 : Nat)).length = 19) := by show _ = _; rw [List.length_set]; exact HSL.out
      clear V9 B8 R8 L8 S8
      go_wp2_with fail
      go_roundw
      case rel => exact ⟨(F4 : Nat), j + 1, i6, c6, small.set o (F4 : Nat), rfl, by go_num, by omega, hi6, HSL9, B9, R9, L9, S9, (fun h => HAT.out.1 h), (fun h => HAT.out.2 h)⟩
      case measure => simp [intOf]; omega
    · have hlti : ¬ ((j : Int) < (F3 : Int) + 4) := by omega
      have hlti2 : decide ((j : Int) < (F3 : Int) + 4) = false := decide_eq_false hlti
      have A4 := hideM (HE.out (by omega))
      clear HA HE hlt
      go_upto_region 18 with fail
      have HKS := hideM (fun V (hV : Row64 V (some ⟨gs, 0, none⟩) small) => skind_any (some ⟨gs, 0, none⟩) 19 small V hV (by rw [HSL.out]; decide))
      have HCS := hideM (fun V (hV : Row64 V (some ⟨gs, 0, none⟩) small) => scodes_any (some ⟨gs, 0, none⟩) 19 small V hV (by rw [HSL.out]; decide))
      rw [HSL.out] at HKS HCS
      have HOK : Hid (hk small = 1 → okC small = true) := hk_okC
      generalize hk small = H at *
      obtain ⟨i7, c7, hB7⟩ : ∃ (xi : Nat) (xc : Int), bdP (i', c') (decide (H ≠ 1)) = (xi, xc) := ⟨_, _, rfl⟩
      rw [hB7] at A4
      have hi7 : i7 ≤ 8 * Z := by
        have := bdP_fst (i', c') (decide (H ≠ 1))
        rw [hB7] at this
        dsimp only at this
        omega
      have HC7 : Hid (c7 = 0 → H = 1) := by
        intro h
        by_cases h1 : H = 1
        · exact h1
        · unfold bdP at hB7
          by_cases h2 : c' = 0
          · rw [if_pos ⟨h2, decide_eq_true h1⟩] at hB7
            injection hB7 with _ e
            omega
          · rw [if_neg (fun x => h2 x.1)] at hB7
            injection hB7 with _ e
            omega
      rw [← bne_dec] at hB7
      have HB7 := hideM hB7
      clear hB7
      go_cut [8] from 61 to 134 (fun x wx => x = .int .i64 X ∧ Hid (L5m wx w.heap.size (.slice ao Z cap) (i7 : Nat) c7) ∧ Hid (L5m wx (w.heap.size + 1) (.slice none 0 0) 0 0) ∧ Hid (Below w.heap.size w wx) ∧ Hid (OwnsI (w.heap.size + 2) wx (some ⟨gs, 0, none⟩) 19 small))
      case first =>
        obtain ⟨b0, b1, b2, bf⟩ := BW.out
        have z1 := BW.out.lt
        clear bf
        go_region_with (first | (go_at_call 36; refine Calls.mono (HKS.out _ (SW.out.row.below ((Below.refl _ _).drew))) ?_; rintro e wk ⟨rfl, q, rfl⟩) | (go_at_call 22; refine Calls.mono (l5Bad_any ao Z cap i' c' (H != 1) _) ?_; rintro e w9 ⟨rfl, hb9⟩; rw [HB7.out]; dsimp only; have hb9' : Below wr.heap.size wr w9 := (below_drewN' _ wr _).trans hb9; obtain ⟨_, _, _, bf9⟩ := BW.out.below hb9'; have := bf9 0; have := bf9 1; have := bf9 2; have := (BW.out.below hb9').lt))
        all_goals
          have E := hideM ((BW.out.below hb9').set (.slice ao Z cap) (i7 : Nat) c7)
          have R9 := hideM ((RW.out.below hb9').grown E.out.2 (by simp))
          have S9 := hideM ((SW.out.below hb9').grown E.out.2 (fun g e he => by have := SW.out.base g he; simp at e; omega))
          have L9 := hideM ((LW.out.trans (hb9'.mono LW.out.size)).grown E.out.2 (by have := (BW.out.below hb9').lt; omega) (by intro k e; simp at e; omega))
          clear b0 b1 b2 z1
          go_wp2_with fail
          go_meet
          exact ⟨rfl, E.out.1, R9, L9, S9⟩
      case rest =>
        clear BW RW LW SW
        obtain ⟨rfl, BW, RW, LW, SW⟩ := hcut
        have HC := hideM (HCS.out wc SW.out.row)
        go_wp2_with fail
        refine Calls.mono HC.out ?_
        rintro e w10 ⟨⟨co, cc, rfl, hRH⟩, hb⟩
        have hlo : w.heap.size + 2 ≤ wc.heap.size := by have := RW.out.lt; omega
        have CD := hideM (hRH.codesIn hlo (fun g hc _ => hc.lt))
        have B1 := hideM (BW.out.below hb)
        have R1 := hideM (RW.out.below hb)
        have L1 := hideM (LW.out.trans (hb.mono LW.out.size))
        have hQ0 : w.heap.size + 2 ≤ w10.heap.size := by have := hb.size; omega
        have HNC : Hid (H = 1 → okC small = true ∧ nC small = small.length) := fun h => ⟨HOK.out h, by unfold nC; rw [HOK.out h]; rfl⟩
        generalize nC small = N1 at *
        clear hRH hb BW RW LW SW HC HKS HCS HOK HB7 hlo
        have b11 : Below w10.heap.size w10 (w10.alloc (.cells #[] 2)) := (Below.refl _ _).alloc (Nat.le_refl _) _
        have OW := hideM (ownI0 w10 w10.heap.size (Nat.le_refl _))
        have BW := hideM (B1.out.below b11)
        have RW := hideM (R1.out.below b11)
        have LW := hideM (L1.out.trans (b11.mono L1.out.size))
        have CD1 := hideM (CD.out.below b11)
        have hQw : w10.heap.size ≤ (w10.alloc (.cells #[] 2)).heap.size := b11.size
        clear b11 B1 R1 L1 CD
        have CD := CD1
        clear CD1
        go_upto_region 21 with fail
        obtain ⟨Q, hQ⟩ : ∃ Q, w10.heap.size = Q := ⟨_, rfl⟩
        rw [hQ] at OW CD hQ0 hQw ⊢
        generalize w10.alloc (.cells #[] 2) = W11 at *
        clear hQ
        have IN := hideM (In2.of_at A4.out (by omega))
        have HNI : Hid (((F1 : Int) + 257 + ((F2 : Int) + 1)).toNat = F1 + F2 + 258) := by show _ = _; omega
        clear A4
        go_loopg [8, 12] (mu2 (F1 + F2 + 258) (i7, c7) []) (fun n x v wr => ∃ (X : Int) (i' : Nat) (c' : Int) (aa : Option Addr) (ca : Nat) (all : List Int), x = .int .i64 X ∧ v = .slice aa all.length ca ∧ Hid (mu2 (F1 + F2 + 258) (i', c') all = n) ∧ i' ≤ 8 * Z ∧ Hid (c' = 0 → H = 1) ∧ all.length ≤ 800 ∧ Hid (L5m wr w.heap.size (.slice ao Z cap) (i' : Nat) c') ∧ Hid (L5m wr (w.heap.size + 1) (.slice none 0 0) 0 0) ∧ Hid (Below w.heap.size w wr) ∧ Hid (OwnsI Q wr aa ca all) ∧ Q ≤ wr.heap.size ∧ Hid (CodesIn (w.heap.size + 2) Q wr co N1 (code small)) ∧ Hid (In2 zs k cf ((F1 : Int) + 257) ((F2 : Int) + 1) small (i', c') all))
        case atStart => exact ⟨X, i7, c7, _, 0, [], rfl, rfl, rfl, hi7, HC7, by simp, BW, RW, LW, OW, hQw, CD, IN⟩
        case round =>
          clear BW RW LW OW CD IN HC7 hQw hi7
          obtain ⟨X1, i', c', aa, ca, all, rfl, rfl, HMU, hi', HC7, hal, BW, RW, LW, OW, hQw, CD, IN⟩ := hrel
          by_cases hc : c' = 0
          · subst hc
            by_cases hl : all.length < F1 + F2 + 258
            · have hli : ((all.length : Int) < (F1 : Int) + 257 + ((F2 : Int) + 1)) := by omega
              have IN1 := hideM (round_in2 IN.out rfl hli)
              have MU1 := hideM (mu2_less (zs := zs) (tb := small) (N := F1 + F2 + 258) (r := (i', 0)) (all := all) rfl hl)
              rw [HNI.out] at IN1
              rw [HMU.out] at MU1
              unfold rnd at IN1 MU1
              obtain ⟨i8, c8, x8, hS⟩ : ∃ (xi : Nat) (xc : Int) (xx : Nat), sy zs (i', 0) small = ((xi, xc), xx) := ⟨_, _, _, rfl⟩
              have hi8 : i8 ≤ 8 * Z := by
                have := sy_le (zs := zs) (tb := small) (r := (i', 0)) (by rw [HZL.out]; exact hi')
                rw [hS, HZL.out] at this
                exact this
              have hx8 : c8 = 0 → x8 < 19 := by
                intro h
                have := sy_sym (zs := zs) (tb := small) (r := (i', 0)) rfl (by rw [hS]; exact h)
                rw [hS, HSL.out] at this
                exact this
              rw [hS] at IN1 MU1
              dsimp only at IN1 MU1
              have HS8 := hideM hS
              have hH1 := HC7.out rfl
              have HCD := hideM (show okC small = true ∧ N1 = small.length ∧ Reads wr co small.length (code small) from by
                obtain ⟨o1, o2⟩ := HNC.out hH1
                exact ⟨o1, o2, o2 ▸ CD.out.reads⟩)
              clear hS HMU IN
              obtain ⟨b0, b1, b2, bf⟩ := BW.out
              have z1 := BW.out.lt
              clear bf
              go_wp2_with fail
              clear b0 b1 b2 z1
              refine Calls.mono (HSY.out _ i' 0 small co N1 cc LW.out hi' (fun _ => HCD.out)) ?_
              rintro e w12 ⟨rfl, hb⟩
              rw [HS8.out]
              dsimp only
              have B' := hideM (BW.out.below hb)
              have R' := hideM (RW.out.below hb)
              have L' := hideM (LW.out.trans (hb.mono LW.out.size))
              have hQ1 : Q ≤ w12.heap.size := by have := hb.size; omega
              have OW' := hideM (OW.out.below hb)
              have CD' := hideM (CD.out.below hb)
              clear hb BW RW LW OW CD
              have E := hideM (B'.out.set (.slice ao Z cap) (i8 : Nat) c8)
              have BW := hideM E.out.1
              have RW := hideM (R'.out.grown E.out.2 (by simp))
              have LW := hideM (L'.out.grown E.out.2 (by have := B'.out.lt; omega) (by intro k e; simp at e; omega))
              have OW := hideM (OW'.out.grown E.out.2 (fun g e he => by have := OW'.out.base g he; simp at e; omega))
              have CD := hideM (CD'.out.grown E.out.2 (fun g e => by simp at e; omega))
              have hQ12 : Q ≤ (((w12.setCell ⟨w.heap.size, 0, none⟩ (.slice ao Z cap)).setCell ⟨w.heap.size, 1, none⟩ (.int .i64 (i8 : Nat))).setCell ⟨w.heap.size, 2, none⟩ (.int .i64 c8)).heap.size := Nat.le_trans hQ1 E.out.2.size
              clear hQ1
              obtain ⟨b0, b1, b2, bf⟩ := B'.out
              have z1 := B'.out.lt
              have bf0 := bf 0
              have bf1 := bf 1
              have bf2 := bf 2
              clear bf
              go_upto_region 23 with fail
              clear b0 b1 b2 bf0 bf1 bf2 z1 E B' R' L' OW' CD'
              generalize (((w12.setCell ⟨w.heap.size, 0, none⟩ (.slice ao Z cap)).setCell ⟨w.heap.size, 1, none⟩ (.int .i64 (i8 : Nat))).setCell ⟨w.heap.size, 2, none⟩ (.int .i64 c8)) = W12 at *
              clear HS8 HCD
              by_cases hc8 : c8 = 0
              · subst hc8
                rw [if_pos rfl] at IN1 MU1
                obtain ⟨i9, c9, all2, hR⟩ : ∃ (xi : Nat) (xc : Int) (xl : List Int), rpt zs (i8, 0) all x8 = ((xi, xc), xl) := ⟨_, _, _, rfl⟩
                have hi9 : i9 ≤ 8 * Z := by
                  have := rpt_le (zs := zs) (all := all) (r := (i8, 0)) (x := x8) (by rw [HZL.out]; exact hi8)
                  rw [hR, HZL.out] at this
                  exact this
                have hl9 : all2.length ≤ 800 := by
                  have := rpt_len zs all (i8, 0) x8
                  rw [hR] at this
                  dsimp only at this
                  omega
                rw [hR] at IN1 MU1
                dsimp only at IN1 MU1
                have HR9 := hideM hR
                clear hR
                obtain ⟨b0, b1, b2, bf⟩ := BW.out
                have z1 := BW.out.lt
                clear bf
                have hx9 : x8 < 19 := hx8 rfl
                clear hx8
                go_wp2_with fail
                clear b0 b1 b2 z1
                refine Calls.mono (HRP.out _ i8 aa ca all x8 Q LW.out hi8 OW.out hQ12 hx9 (by omega)) ?_
                rintro e w13 ⟨aa2, ca2, rfl, hO2, hb, hK2⟩
                rw [HR9.out] at hO2 ⊢
                dsimp only at hO2 ⊢
                have OW' := hideM hO2
                clear hO2 hK2
                have B' := hideM (BW.out.grown hb (by intro e; have := OW.out.base _ e.symm; omega))
                have R' := hideM (RW.out.grown hb (by intro e; have := OW.out.base _ e.symm; omega))
                have L' := hideM (LW.out.grown hb (by have := BW.out.lt; omega) (by intro k e; have := OW.out.base k e; omega))
                have hQ1 : Q ≤ w13.heap.size := by have := hb.size; omega
                have CD' := hideM (CD.out.grown hb (fun k e => by have := OW.out.base k e; omega))
                clear hb BW RW LW CD OW
                have E := hideM (B'.out.set (.slice ao Z cap) (i9 : Nat) c9)
                have BW := hideM E.out.1
                have RW := hideM (R'.out.grown E.out.2 (by simp))
                have LW := hideM (L'.out.grown E.out.2 (by have := B'.out.lt; omega) (by intro k e; simp at e; omega))
                have CD := hideM (CD'.out.grown E.out.2 (fun g e => by simp at e; omega))
                have OW := hideM (OW'.out.grown E.out.2 (fun g e he => by have := OW'.out.base g he; simp at e; omega))
                have hQ13 : Q ≤ (((w13.setCell ⟨w.heap.size, 0, none⟩ (.slice ao Z cap)).setCell ⟨w.heap.size, 1, none⟩ (.int .i64 (i9 : Nat))).setCell ⟨w.heap.size, 2, none⟩ (.int .i64 c9)).heap.size := Nat.le_trans hQ1 E.out.2.size
                clear hQ1
                obtain ⟨b0, b1, b2, bf⟩ := B'.out
                have z1 := B'.out.lt
                have bf0 := bf 0
                have bf1 := bf 1
                have bf2 := bf 2
                clear bf
                go_upto_region 25 with fail
                clear b0 b1 b2 bf0 bf1 bf2 z1 E B' R' L' CD' OW'
                generalize (((w13.setCell ⟨w.heap.size, 0, none⟩ (.slice ao Z cap)).setCell ⟨w.heap.size, 1, none⟩ (.int .i64 (i9 : Nat))).setCell ⟨w.heap.size, 2, none⟩ (.int .i64 c9)) = W13 at *
                obtain ⟨fb, hfb⟩ : ∃ fb : Bool, decide (F1 + F2 + 258 < all2.length) = fb := ⟨_, rfl⟩
                rw [hfb] at IN1 MU1
                have hfi : decide ((F1 : Int) + 257 + ((F2 : Int) + 1) < (all2.length : Int)) = fb := by rw [← hfb]; apply decide_eq_decide.2; omega
                clear hfb
                obtain ⟨iA, cA, hB⟩ : ∃ (xi : Nat) (xc : Int), bdP (i9, c9) fb = (xi, xc) := ⟨_, _, rfl⟩
                have hiA : iA ≤ 8 * Z := by
                  have := bdP_fst (i9, c9) fb
                  rw [hB] at this
                  dsimp only at this
                  omega
                rw [hB] at IN1 MU1
                have HBA := hideM hB
                clear hB
                obtain ⟨b0, b1, b2, bf⟩ := BW.out
                have z1 := BW.out.lt
                clear bf
                go_wp2_with fail
                clear b0 b1 b2 z1
                refine Calls.mono (l5Bad_any ao Z cap i9 c9 fb _) ?_
                rintro e w14 ⟨rfl, hb⟩
                rw [HBA.out]
                dsimp only
                have B' := hideM (BW.out.below hb)
                have R' := hideM (RW.out.below hb)
                have L' := hideM (LW.out.trans (hb.mono LW.out.size))
                have hQ1 : Q ≤ w14.heap.size := by have := hb.size; omega
                have OW' := hideM (OW.out.below hb)
                have CD' := hideM (CD.out.below hb)
                clear hb BW RW LW OW CD
                have E := hideM (B'.out.set (.slice ao Z cap) (iA : Nat) cA)
                have BW := hideM E.out.1
                have RW := hideM (R'.out.grown E.out.2 (by simp))
                have LW := hideM (L'.out.grown E.out.2 (by have := B'.out.lt; omega) (by intro k e; simp at e; omega))
                have OW := hideM (OW'.out.grown E.out.2 (fun g e he => by have := OW'.out.base g he; simp at e; omega))
                have CD := hideM (CD'.out.grown E.out.2 (fun g e => by simp at e; omega))
                have hQ14 : Q ≤ (((w14.setCell ⟨w.heap.size, 0, none⟩ (.slice ao Z cap)).setCell ⟨w.heap.size, 1, none⟩ (.int .i64 (iA : Nat))).setCell ⟨w.heap.size, 2, none⟩ (.int .i64 cA)).heap.size := Nat.le_trans hQ1 E.out.2.size
                clear hQ1
                obtain ⟨b0, b1, b2, bf⟩ := B'.out
                have z1 := B'.out.lt
                have bf0 := bf 0
                have bf1 := bf 1
                have bf2 := bf 2
                clear bf
                go_wp2_with fail
                clear b0 b1 b2 bf0 bf1 bf2 z1 E B' R' L' OW' CD'
                generalize (((w14.setCell ⟨w.heap.size, 0, none⟩ (.slice ao Z cap)).setCell ⟨w.heap.size, 1, none⟩ (.int .i64 (iA : Nat))).setCell ⟨w.heap.size, 2, none⟩ (.int .i64 cA)) = W14 at *
                go_roundg (mu2 (F1 + F2 + 258) (iA, cA) all2)
                case measure => exact MU1.out
                case rel => exact ⟨(x8 : Nat), iA, cA, aa2, ca2, all2, rfl, rfl, rfl, hiA, (fun _ => hH1), hl9, BW, RW, LW, OW, hQ14, CD, IN1⟩
              · rw [if_neg hc8] at IN1 MU1
                dsimp only at IN1 MU1
                have hc8b : (c8 == 0) = false := by simp [hc8]
                obtain ⟨b0, b1, b2, bf⟩ := BW.out
                have z1 := BW.out.lt
                clear bf hc8 hx8
                go_wp2_with fail
                clear b0 b1 b2 z1
                go_roundg (mu2 (F1 + F2 + 258) (i8, c8) all)
                case measure => exact MU1.out
                case rel => exact ⟨(x8 : Nat), i8, c8, aa, ca, all, rfl, rfl, rfl, hi8, (fun _ => hH1), hal, BW, RW, LW, OW, hQ12, CD, IN1⟩
            · have hle := IN.out.le rfl
              have hlen : all.length = F1 + F2 + 258 := by omega
              have hEQ := IN.out.eq rfl (by omega)
              obtain ⟨l, hl5⟩ : ∃ l : Nat, F1 + 257 = l := ⟨_, rfl⟩
              obtain ⟨d, hd5⟩ : ∃ d : Nat, F2 + 1 = d := ⟨_, rfl⟩
              have e5 : (F1 : Int) + 257 = (l : Int) := by omega
              have e6 : (F2 : Int) + 1 = (d : Int) := by omega
              rw [e5, Int.toNat_natCast] at hEQ
              dsimp only at hEQ
              have HEQ := hideM hEQ
              clear hEQ hle IN HMU HC7 CD
              rw [e5, e6]
              have hld : all.length = l + d := by omega
              have hl257 : 257 ≤ l := by omega
              have hd1 : 1 ≤ d := by omega
              have hl288 : l ≤ 400 := by omega
              have hd30 : d ≤ 400 := by omega
              obtain ⟨g, rfl, hgQ, hgw, hgc⟩ := OW.out.at (by omega)
              have HRA : Hid (Row64 wr (some ⟨g, 0, none⟩) (all.take l)) := OW.out.row.takeN l
              have HRB : Hid (Row64 wr (some ⟨g, l, none⟩) (all.drop l)) := OW.out.row.dropN l
              have hta : (all.take l).length = l := by rw [List.length_take]; omega
              have htb : (all.drop l).length = all.length - l := List.length_drop
              have HKA := hideM (fun V (hV : Row64 V (some ⟨g, 0, none⟩) (all.take l)) => l5IsKind_any (some ⟨g, 0, none⟩) ca (all.take l) 1 4 4 V hV (by omega))
              have HKB := hideM (fun V (hV : Row64 V (some ⟨g, l, none⟩) (all.drop l)) => l5IsKind_any (some ⟨g, l, none⟩) (ca - l) (all.drop l) 1 4 5 V hV (by omega))
              rw [hta] at HKA
              rw [htb] at HKB
              have hcx := OW.out.cell (k := 256) (by omega)
              obtain ⟨x, hx⟩ : ∃ x, all.getD 256 0 = x := ⟨_, rfl⟩
              rw [hx] at hcx
              have HCH : Hid (chk (all.take l) (all.drop l) ↔ x ≠ 0 ∧ decide (hk (all.take l) = 1 ∨ hk (all.take l) = 4 ∨ hk (all.take l) = 4) = true ∧ decide (hk (all.drop l) = 1 ∨ hk (all.drop l) = 4 ∨ hk (all.drop l) = 5) = true) := by
                show _ ↔ _
                unfold chk
                rw [show (all.take l).getD 256 0 = x from by rw [← hx, List.getD_eq_getElem?_getD, List.getD_eq_getElem?_getD, List.getElem?_take_of_lt (by omega)], decide_eq_true_iff, decide_eq_true_iff, or_self_iff]
              generalize decide (hk (all.take l) = 1 ∨ hk (all.take l) = 4 ∨ hk (all.take l) = 4) = A at *
              generalize decide (hk (all.drop l) = 1 ∨ hk (all.drop l) = 4 ∨ hk (all.drop l) = 5) = Bv at *
              obtain ⟨C3, hC3⟩ : ∃ C3 : Int, (if x ≠ 0 ∧ A = true ∧ Bv = true then 0 else 3) = C3 := ⟨_, rfl⟩
              have HFIN : Hid ((k = 1 → C3 = 0 ∧ i' = cf.i ∧ cf.lens = all ∧ (cf.f 2).toNat = l) ∧ (k ≠ 1 → C3 = k)) := by
                by_cases hch : x ≠ 0 ∧ A = true ∧ Bv = true
                · rw [if_pos hch] at hC3
                  obtain ⟨k1, k2, k3, k4⟩ := HEQ.out.1 (HCH.out.2 hch)
                  exact ⟨fun _ => ⟨hC3.symm, k2.symm, k3, by rw [k4]; omega⟩, fun h => absurd k1 h⟩
                · rw [if_neg hch] at hC3
                  have k3 := HEQ.out.2 (fun h => hch (HCH.out.1 h))
                  exact ⟨fun h => by omega, fun _ => by omega⟩
              have HT1 := hideM hta
              have HT2 := hideM htb
              have h4 : ¬ ca = l := by omega
              have h5 : ¬ l = ca := by omega
              have h6 : l ≤ ca := by omega
              have h7 : l ≤ all.length := by omega
              have h8 : ((l : Int) ≤ (all.length : Int)) := by omega
              have h9 : ((l : Int) ≤ (ca : Int)) := by omega
              have h10 : ¬ ((all.length : Int) < (l : Int) + (d : Int)) := by omega
              have h10d : decide ((all.length : Int) < (l : Int) + (d : Int)) = false := decide_eq_false h10
              have h11 : (256 : Int) < (l : Int) := by omega
              have hgp : ¬ g = w.heap.size := by omega
              have hgp2 : ¬ g = w.heap.size + 1 := by omega
              have HGE : Hid (LensFar w.heap.size (some ⟨g, 0, none⟩) (some ⟨g, l, none⟩)) := lensFar1 (by omega)
              have HIZ := hideM hi'
              clear hx hta htb hlen hl5 hd5 e5 e6 hl OW HCH HEQ hld
              generalize all.length = n at *
              clear HTK HSY HRP HNC HNI HSL
              obtain ⟨b0, b1, b2, bf⟩ := BW.out
              have z1 := BW.out.lt
              clear bf
              go_upto_region 28 with fail
              go_cut [13] from 15 to 134 (fun v wx => v = .slice (some ⟨g, 0, none⟩) l ca ∧ wx = wr)
              case first =>
                go_wp2_with fail
                go_meet
                exact ⟨rfl, rfl⟩
              case rest =>
               obtain ⟨rfl, hwx⟩ := hcut
               rw [hwx]
               clear hwx
               go_upto_region 30 with fail
               go_cut [13, 14] from 116 to 134 (fun v v' wx => v = .slice (some ⟨g, 0, none⟩) l ca ∧ v' = .slice (some ⟨g, l, none⟩) (n - l) (ca - l) ∧ Hid (L5m wx w.heap.size (.slice ao Z cap) (i' : Nat) C3) ∧ Hid (L5m wx (w.heap.size + 1) (.slice none 0 0) 0 0) ∧ Hid (Below w.heap.size w wx) ∧ Hid (Row64 wx (some ⟨g, 0, none⟩) (all.take l)) ∧ Hid (Row64 wx (some ⟨g, l, none⟩) (all.drop l)))
               case first =>
                 by_cases hx0 : x = 0
                 · have hxb : (x == 0) = true := by simp [hx0]
                   have HC3 : Hid (3 = C3) := by show _ = _; rw [← hC3, if_neg (fun h => h.1 hx0)]
                   clear hx0 hC3
                   first | go_region_with (first | (go_at_call 22; refine Calls.mono (l5Bad_any ao Z cap i' 0 true _) ?_; rintro e w9 ⟨rfl, hb9⟩; rw [show bdP (i', 0) true = (i', 3) from rfl]; dsimp only; have hb9' : Below wr.heap.size wr w9 := ((Below.refl _ _).drew).trans hb9; obtain ⟨_, _, _, bf9⟩ := BW.out.below hb9'; have := bf9 0; have := bf9 1; have := bf9 2; have := (BW.out.below hb9').lt)) | fail
                   all_goals
                     have E := hideM ((BW.out.below hb9').set (.slice ao Z cap) (i' : Nat) 3)
                     have R9 := hideM ((RW.out.below hb9').grown E.out.2 (by simp))
                     have L9 := hideM ((LW.out.trans (hb9'.mono LW.out.size)).grown E.out.2 (by have := (BW.out.below hb9').lt; omega) (by intro k e; simp at e; omega))
                     have RA9 := hideM ((HRA.out.below hb9').grownL E.out.2 (by simp; omega))
                     have RB9 := hideM ((HRB.out.below hb9').grownL E.out.2 (by simp; omega))
                     go_wp2_with fail
                     go_meet
                     exact ⟨rfl, rfl, HC3.out ▸ E.out.1, R9, L9, RA9, RB9⟩
                 · have hxb : (x == 0) = false := by simp [hx0]
                   cases A with
                   | false =>
                     have HC3 : Hid (3 = C3) := by show _ = _; rw [← hC3, if_neg (fun h => by cases h.2.1)]
                     clear hx0 hC3
                     first | go_region_with (first | (go_at_call 40; (with_reducible refine Calls.mono (HKA.out _ ?_) ?_); exact (HRA.out.below ((Below.refl _ _).drew)); rintro e wk1 ⟨rfl, hbk1⟩; have hbt1 : Below wr.heap.size wr wk1 := ((Below.refl _ _).drew).trans hbk1; obtain ⟨_, _, _, _⟩ := BW.out.below hbt1; have := (BW.out.below hbt1).lt) | (go_at_call 22; refine Calls.mono (l5Bad_any ao Z cap i' 0 true _) ?_; rintro e w9 ⟨rfl, hb9⟩; rw [show bdP (i', 0) true = (i', 3) from rfl]; dsimp only; have hb9' : Below wr.heap.size wr w9 := hbt1.trans (hb9.mono hbt1.size); obtain ⟨_, _, _, bf9⟩ := BW.out.below hb9'; have := bf9 0; have := bf9 1; have := bf9 2; have := (BW.out.below hb9').lt)) | fail
                     all_goals
                       have E := hideM ((BW.out.below hb9').set (.slice ao Z cap) (i' : Nat) 3)
                       have R9 := hideM ((RW.out.below hb9').grown E.out.2 (by simp))
                       have L9 := hideM ((LW.out.trans (hb9'.mono LW.out.size)).grown E.out.2 (by have := (BW.out.below hb9').lt; omega) (by intro k e; simp at e; omega))
                       have RA9 := hideM ((HRA.out.below hb9').grownL E.out.2 (by simp; omega))
                       have RB9 := hideM ((HRB.out.below hb9').grownL E.out.2 (by simp; omega))
                       go_wp2_with fail
                       go_meet
                       exact ⟨rfl, rfl, HC3.out ▸ E.out.1, R9, L9, RA9, RB9⟩
                   | true =>
                     cases Bv with
                     | false =>
                       have HC3 : Hid (3 = C3) := by show _ = _; rw [← hC3, if_neg (fun h => by cases h.2.2)]
                       clear hx0 hC3
                       go_region_with (first | (go_at_call 40; (with_reducible refine Calls.mono (HKA.out _ ?_) ?_); exact (HRA.out.below ((Below.refl _ _).drew)); rintro e wk1 ⟨rfl, hbk1⟩; have hbt1 : Below wr.heap.size wr wk1 := ((Below.refl _ _).drew).trans hbk1; obtain ⟨_, _, _, _⟩ := BW.out.below hbt1; have := (BW.out.below hbt1).lt) | (go_at_call 40; (with_reducible refine Calls.mono (HKB.out _ ?_) ?_); exact (HRB.out.below hbt1); rintro e wk2 ⟨rfl, hbk2⟩; have hbt2 : Below wr.heap.size wr wk2 := hbt1.trans (hbk2.mono hbt1.size); obtain ⟨_, _, _, _⟩ := BW.out.below hbt2; have := (BW.out.below hbt2).lt) | (go_at_call 22; refine Calls.mono (l5Bad_any ao Z cap i' 0 true _) ?_; rintro e w9 ⟨rfl, hb9⟩; rw [show bdP (i', 0) true = (i', 3) from rfl]; dsimp only; have hb9' : Below wr.heap.size wr w9 := hbt2.trans (hb9.mono hbt2.size); obtain ⟨_, _, _, bf9⟩ := BW.out.below hb9'; have := bf9 0; have := bf9 1; have := bf9 2; have := (BW.out.below hb9').lt))
                       all_goals
                         have E := hideM ((BW.out.below hb9').set (.slice ao Z cap) (i' : Nat) 3)
                         have R9 := hideM ((RW.out.below hb9').grown E.out.2 (by simp))
                         have L9 := hideM ((LW.out.trans (hb9'.mono LW.out.size)).grown E.out.2 (by have := (BW.out.below hb9').lt; omega) (by intro k e; simp at e; omega))
                         have RA9 := hideM ((HRA.out.below hb9').grownL E.out.2 (by simp; omega))
                         have RB9 := hideM ((HRB.out.below hb9').grownL E.out.2 (by simp; omega))
                         go_wp2_with fail
                         go_meet
                         exact ⟨rfl, rfl, HC3.out ▸ E.out.1, R9, L9, RA9, RB9⟩
                     | true =>
                       have HC3 : Hid (0 = C3) := by show _ = _; rw [← hC3, if_pos ⟨hx0, rfl, rfl⟩]
                       clear hx0 hC3
                       go_region_with (first | (go_at_call 40; (with_reducible refine Calls.mono (HKA.out _ ?_) ?_); exact (HRA.out.below ((Below.refl _ _).drew)); rintro e wk1 ⟨rfl, hbk1⟩; have hbt1 : Below wr.heap.size wr wk1 := ((Below.refl _ _).drew).trans hbk1; obtain ⟨_, _, _, _⟩ := BW.out.below hbt1; have := (BW.out.below hbt1).lt) | (go_at_call 40; (with_reducible refine Calls.mono (HKB.out _ ?_) ?_); exact (HRB.out.below hbt1); rintro e wk2 ⟨rfl, hbk2⟩; have hbt2 : Below wr.heap.size wr wk2 := hbt1.trans (hbk2.mono hbt1.size); obtain ⟨_, _, _, _⟩ := BW.out.below hbt2; have := (BW.out.below hbt2).lt) | (go_at_call 22; refine Calls.mono (l5Bad_any ao Z cap i' 0 false _) ?_; rintro e w9 ⟨rfl, hb9⟩; rw [show bdP (i', 0) false = (i', 0) from rfl]; dsimp only; have hb9' : Below wr.heap.size wr w9 := hbt2.trans (hb9.mono hbt2.size); obtain ⟨_, _, _, bf9⟩ := BW.out.below hb9'; have := bf9 0; have := bf9 1; have := bf9 2; have := (BW.out.below hb9').lt))
                       all_goals
                         have E := hideM ((BW.out.below hb9').set (.slice ao Z cap) (i' : Nat) 0)
                         have R9 := hideM ((RW.out.below hb9').grown E.out.2 (by simp))
                         have L9 := hideM ((LW.out.trans (hb9'.mono LW.out.size)).grown E.out.2 (by have := (BW.out.below hb9').lt; omega) (by intro k e; simp at e; omega))
                         have RA9 := hideM ((HRA.out.below hb9').grownL E.out.2 (by simp; omega))
                         have RB9 := hideM ((HRB.out.below hb9').grownL E.out.2 (by simp; omega))
                         go_wp2_with fail
                         go_meet
                         exact ⟨rfl, rfl, HC3.out ▸ E.out.1, R9, L9, RA9, RB9⟩
               case rest =>
                 clear BW RW LW b0 b1 b2 z1 hC3 HKA HKB hcx
                 obtain ⟨rfl, rfl, BW, RW, LW, RA, RB⟩ := hcut
                 clear h4 h5 h6 h7 h8 h9 h10 h10d h11 hgc
                 generalize n - l = n2 at *
                 generalize ca - l = c2 at *
                 have hgpp := hideM (And.intro hgp hgp2)
                 obtain ⟨b0, b1, b2, bf⟩ := BW.out
                 have z1 := BW.out.lt
                 obtain ⟨r0, r1, r2, rf⟩ := RW.out
                 have rf0 := rf 0
                 have rf1 := rf 1
                 have rf2 := rf 2
                 have z2 := RW.out.lt
                 clear bf rf
                 have E := hideM (RW.out.set (.slice ao Z cap) (i' : Nat) C3)
                 have L16 := hideM (LW.out.grown E.out.2 (by have := RW.out.lt; omega) (by intro k e; simp at e; omega))
                 have RA2 := hideM (RA.out.grownL E.out.2 (by simp; omega))
                 have RB2 := hideM (RB.out.grownL E.out.2 (by simp; omega))
                 go_wp2_with fail
                 obtain ⟨⟨y0, y1, y2, _⟩, _⟩ := E.out
                 exact bodyPost_ret (v := .tuple #[.agg #[.slice ao Z cap, .int .i64 (i' : Nat), .int .i64 C3], .slice (some ⟨g, 0, none⟩) l ca, .slice (some ⟨g, l, none⟩) n2 c2]) (by simp [results, Tryz.results25, go_sem, y0, y1, y2]) rfl ⟨i', C3, _, l, ca, _, _, _, rfl, (fun h => by
                   obtain ⟨k1, k2, k3, k4⟩ := HFIN.out.1 h
                   rw [k3, k4]
                   exact ⟨k1, k2, HT1.out.symm, HT2.out.symm, RA2.out, RB2.out⟩), HFIN.out.2, ⟨L16.out, HIZ.out, HGE.out⟩⟩
          · obtain ⟨hck, hk1⟩ := IN.out.no hc
            dsimp only at hck
            have hcb : (c' == 0) = false := by simp [hc]
            have hcn : (c' != 0) = true := by simp [hc]
            have HFIN : Hid ((k = 1 → c' = 0) ∧ (k ≠ 1 → c' = k)) := ⟨fun h => absurd h hk1, fun _ => hck⟩
            have HK1 := hideM hk1
            have HGE : Hid (LensFar w.heap.size (some ⟨wr.heap.size, 0, none⟩) (some ⟨wr.heap.size + 1, 0, none⟩)) := lensFar2 (by have := RW.out.lt; omega)
            have HIZ := hideM hi'
            clear hck hk1 hc IN CD OW HC7 HMU
            obtain ⟨b0, b1, b2, bf⟩ := BW.out
            have z1 := BW.out.lt
            obtain ⟨r0, r1, r2, rf⟩ := RW.out
            have rf0 := rf 0
            have rf1 := rf 1
            have rf2 := rf 2
            have z2 := RW.out.lt
            clear bf rf
            have E := hideM (RW.out.set (.slice ao Z cap) (i' : Nat) c')
            have b15 := fun (V : World) => ((Below.refl V.heap.size V).alloc (Nat.le_refl _) (.cells #[] 2)).alloc (by simp) (.cells #[] 2)
            have Y := hideM (E.out.1.below (b15 _))
            have L15 := hideM (LW.out.grown E.out.2 (by have := RW.out.lt; omega) (by intro k e; simp at e; omega))
            have L16 := hideM (L15.out.trans ((b15 _).mono L15.out.size))
            clear b15
            go_wp2_with fail
            obtain ⟨y0, y1, y2, _⟩ := Y.out
            exact bodyPost_ret (v := .tuple #[.agg #[.slice ao Z cap, .int .i64 (i' : Nat), .int .i64 c'], .slice (some ⟨wr.heap.size, 0, none⟩) 0 0, .slice (some ⟨wr.heap.size + 1, 0, none⟩) 0 0]) (by simp [results, Tryz.results25, go_sem, y0, y1, y2]) rfl ⟨i', c', _, 0, 0, _, 0, 0, rfl, (fun h => absurd h HK1.out), HFIN.out.2, ⟨L16.out, HIZ.out, HGE.out⟩⟩
end Go.Proofs.YtlfabilmilkboaaGreatDoor
