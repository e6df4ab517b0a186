import Derived.Test.YtlfabilmilkboaaGreatDoorMBA
import Derived.Test.YtlfabilmilkboaaGreatDoorMBY
namespace Go.Proofs.YtlfabilmilkboaaGreatDoor
open Go.RowKit
attribute [local go_sem ↓] Go.wp_at_zero Go.wp_at_succ
set_option linter.unusedVariables false

theorem IEnds.det {s : Nat} {zs : List Int} {c cf cf' : IC} {k k' : Int} (h : IEnds s zs c k cf) (h' : IEnds s zs c k' cf') : k = k' ∧ cf = cf' := by
  obtain ⟨n, hn⟩ := h
  induction n generalizing c with
  | zero => exact hn.elim
  | succ n ih =>
    rcases hn with ⟨h1, rfl, rfl⟩ | ⟨h1, hs⟩ | ⟨h1, c', hs, h3⟩
    · rcases h'.cut with ⟨_, rfl, rfl⟩ | ⟨h2, _⟩ | ⟨h2, _⟩
      · exact ⟨rfl, rfl⟩
      · exact absurd h2 h1
      · exact absurd h2 h1
    · obtain ⟨e1, e2⟩ := h'.stop h1 hs
      exact ⟨e1.symm, e2.symm⟩
    · exact ih (h'.step h1 hs) h3
theorem IEnds.ex {s : Nat} {zs : List Int} (hzl : zs.length ≤ 65536) : ∀ (n : Nat) (c : IC), IWell zs c → imu zs c < n → ∃ k cf, IEnds s zs c k cf := by
  intro n
  induction n with
  | zero => intro c _ h; omega
  | succ n ih =>
    intro c hw hn
    by_cases h5 : c.st ≤ 15
    · cases hs : istep0 s zs c with
      | inl c' =>
        obtain ⟨g1, g2⟩ := istep0_ok hw h5 hzl hs
        obtain ⟨k, cf, h⟩ := ih c' g1 (by omega)
        exact ⟨k, cf, .more h5 hs h⟩
      | inr x => exact ⟨x.1, x.2, .bad h5 hs⟩
    · exact ⟨1, c, .fin h5⟩
/-- What IAt says at the end. -/
theorem IAt.ended {s : Nat} {zs : List Int} {D : Nat} {k : Int} {cf : IC} {i : Nat} {cl : Int} {all : List Int} (h : IAt s zs D k cf 16 (fun _ => True) (i, cl) all) : cf.out = all.drop D ∧ (cl ≠ 0 → k = cl ∧ iRes k cf = 0) ∧ (cl = 0 → k = 1 ∧ iRes k cf = (i : Int)) := by
  by_cases h0 : cl = 0
  · obtain ⟨c, h1, h2, h3, h4, h5, h6, h7⟩ := h.yes h0
    obtain ⟨rfl, rfl⟩ := h6.at16 h1
    refine ⟨h4, fun e => absurd h0 e, fun _ => ⟨rfl, ?_⟩⟩
    unfold iRes
    rw [if_pos rfl, h2]
  · obtain ⟨h1, h2, h3⟩ := h.no h0
    refine ⟨h3, fun _ => ⟨h1.symm, ?_⟩, fun e => absurd e h0⟩
    unfold iRes
    rw [if_neg h2]
set_option maxRecDepth 100000 in
set_option maxHeartbeats 6400000 in
theorem l5Start_any (s : Nat) (d : List Int) (bo : Option Addr) (cb : Nat) (w : World) (ha : Arg w bo cb d) (hs0 : 0 < s) (hs1 : s ≤ 32768) (hd : d.length ≤ 4194304) :
    Calls Tryz.prog 13 #[.int .i64 (s : Nat), .slice bo d.length cb, .int .i64 100000] w fun e w' => ∃ a c, e = .returned (.agg #[.slice a (lastN s d).length c, .int .i64 ((lastN s d).length : Nat), .int .i64 (s : Nat), .int .i64 100000]) ∧ OwnsB 5 w.heap.size w' a c (lastN s d) ∧ Below w.heap.size w w' := by
  have b0 : Below w.heap.size w (w.alloc (.cells #[.slice none 0 0, .int .i64 0, .int .i64 0, .int .i64 0] 35)) := (Below.refl _ _).alloc (Nat.le_refl _) _
  have HL := hideM (l4Last_any s d bo cb _ (ha.below b0) hs0 hs1 hd)
  have hz0 : (w.alloc (.cells #[.slice none 0 0, .int .i64 0, .int .i64 0, .int .i64 0] 35)).heap.size = w.heap.size + 1 := by simp
  have k0 : (w.alloc (.cells #[.slice none 0 0, .int .i64 0, .int .i64 0, .int .i64 0] 35)).cell? ⟨w.heap.size, 0, none⟩ = some (.slice none 0 0) := by simp [go_sem]
  have k1 : (w.alloc (.cells #[.slice none 0 0, .int .i64 0, .int .i64 0, .int .i64 0] 35)).cell? ⟨w.heap.size, 1, none⟩ = some (.int .i64 0) := by simp [go_sem]
  have k2 : (w.alloc (.cells #[.slice none 0 0, .int .i64 0, .int .i64 0, .int .i64 0] 35)).cell? ⟨w.heap.size, 2, none⟩ = some (.int .i64 0) := by simp [go_sem]
  have k3 : (w.alloc (.cells #[.slice none 0 0, .int .i64 0, .int .i64 0, .int .i64 0] 35)).cell? ⟨w.heap.size, 3, none⟩ = some (.int .i64 0) := by simp [go_sem]
  have kf : ∀ o, (w.alloc (.cells #[.slice none 0 0, .int .i64 0, .int .i64 0, .int .i64 0] 35)).frozen? ⟨w.heap.size, o, none⟩ = false := fun o => by simp [go_sem]
  have hll : (lastN s d).length ≤ 32768 := by rw [lastN_len]; omega
  rw [hz0] at HL
  have B0 := hideM b0
  have KK := hideM (And.intro k0 (And.intro k1 (And.intro k2 (And.intro k3 kf))))
  generalize lastN s d = X at *
  clear ha b0 k0 k1 k2 k3 kf
  go_enter Tryz.func13, Tryz.ntmps13
  go_wp2_with fail
  refine Calls.mono HL.out ?_
  rintro e w1 ⟨a, c, rfl, ho, hb⟩
  have z1 : w.heap.size < w1.heap.size := by have := hb.size; omega
  have kc : ∀ o, w1.cell? ⟨w.heap.size, o, none⟩ = (w.alloc (.cells #[.slice none 0 0, .int .i64 0, .int .i64 0, .int .i64 0] 35)).cell? ⟨w.heap.size, o, none⟩ := fun o => hb.cell (p := ⟨w.heap.size, o, none⟩) (Nat.lt_succ_self _)
  have kz : ∀ o, w1.frozen? ⟨w.heap.size, o, none⟩ = (w.alloc (.cells #[.slice none 0 0, .int .i64 0, .int .i64 0, .int .i64 0] 35)).frozen? ⟨w.heap.size, o, none⟩ := fun o => hb.frozen (p := ⟨w.heap.size, o, none⟩) (Nat.lt_succ_self _)
  obtain ⟨k0, k1, k2, k3, kf⟩ := KK.out
  have c0 := (kc 0).trans k0
  have c1 := (kc 1).trans k1
  have c2 := (kc 2).trans k2
  have c3 := (kc 3).trans k3
  have f0 := (kz 0).trans (kf 0)
  have f1 := (kz 1).trans (kf 1)
  have f2 := (kz 2).trans (kf 2)
  have f3 := (kz 3).trans (kf 3)
  have CC := hideM (wT_cells c0 c1 c2 c3 (.slice a X.length c) ((X.length : Nat) : Int) ((s : Nat) : Int))
  have G1 := wT_grown w1 w.heap.size (.slice a X.length c) ((X.length : Nat) : Int) ((s : Nat) : Int)
  have HO := hideM (OwnsB.grown (OwnsB.mono (B' := w.heap.size) ho (by omega)) G1 (fun k e e2 => by have := OwnsB.based ho k e2; simp at e; omega))
  have HB := hideM ((B0.out.trans (hb.mono (by omega))).grown G1 (by omega) (fun k e => by simp at e; omega))
  clear ho hb kc kz k0 k1 k2 k3 kf KK G1 HL B0
  unfold wT at CC HO HB
  go_wp2_with fail
  obtain ⟨y0, y1, y2, y3, _⟩ := CC.out
  exact bodyPost_ret (v := .agg #[.slice a X.length c, .int .i64 ((X.length : Nat) : Int), .int .i64 (s : Nat), .int .i64 100000]) (by simp [results, Tryz.results13, go_sem, y0, y1, y2, y3]) rfl ⟨a, c, rfl, HO.out, HB.out⟩
theorem own0at (w : World) (A : Obj) (e : TypeId) : ((w.alloc A).alloc (.cells #[] e)).ownsRow (w.heap.size + 1) e 1 (.slice (some ⟨w.heap.size + 1, 0, none⟩) 0 0) 0 [] := by
  have h := World.ownsRow_lit (base := w.heap.size + 1) (e := e) (size := 1) (w.alloc A) #[] 0 (by simp) (by unfold maxLen; omega) rfl
  rw [World.size_alloc] at h
  exact h
set_option maxRecDepth 100000 in
set_option maxHeartbeats 6400000 in
theorem l5Out_any (a : Option Addr) (c : Nat) (all : List Int) (D s : Nat) (w : World) (hr : Row w a all) (hfit : all.length ≤ c) (hcm : c ≤ maxLen) (hnil : a = none → c = 0) (hD : D ≤ all.length) (hal : all.length ≤ 200000) :
    Calls Tryz.prog 14 #[.agg #[.slice a all.length c, .int .i64 (D : Nat), .int .i64 (s : Nat), .int .i64 100000]] w fun e w' => ∃ a' c', e = .returned (.slice a' (all.drop D).length c') ∧ OwnsB 5 w.heap.size w' a' c' (all.drop D) ∧ Below w.heap.size w w' := by
  obtain ⟨i0, hi, hz0, hz1, hz2⟩ := info_parts Tryz.info_u8s
  have b1 : Below w.heap.size w ((w.alloc (.cells #[.slice a all.length c, .int .i64 (D : Nat), .int .i64 (s : Nat), .int .i64 100000] 35)).alloc (.cells #[] 5)) := ((Below.refl _ _).alloc (Nat.le_refl _) _).alloc (by simp) _
  have O0 := hideM (own0at w (.cells #[.slice a all.length c, .int .i64 (D : Nat), .int .i64 (s : Nat), .int .i64 100000] 35) 5)
  have HB1 := hideM b1
  have hr3 := (hr.below b1).cut (k := D) hfit
  have hcn : cutAt a c D = none → (all.drop D).length = 0 ∧ c - D = 0 := by
    intro e
    unfold cutAt at e
    rw [List.length_drop]
    split at e
    · omega
    · cases a with
      | none => have := hnil rfl; omega
      | some x => simp at e
  unfold maxLen at hcm
  have hDi : (D : Int) ≤ (all.length : Int) := by omega
  have hzl : all.length - D = (all.drop D).length := by rw [List.length_drop]
  generalize all.drop D = zd at *
  clear hr hnil b1
  by_cases hck : c = D
  · have he : cutAt a c D = a := if_pos hck
    rw [he] at hr3 hcn
    clear he
    subst hck
    rw [Nat.sub_self] at hcn
    have HCN : Hid (a = none → zd.length = 0 ∧ 0 = 0) := hcn
    have HR3 := hideM hr3
    clear hcn hr3
    go_enter Tryz.func14, Tryz.ntmps14
    go_wp2_with (at_builtin; refine wpList_append_row _ rfl _ _ 22 rfl (w.heap.size + 1) 5 i0 (.int .u8 0) 1 Tryz.underlying22 hi hz0 hz1 hz2 rfl (.slice (some ⟨w.heap.size + 1, 0, none⟩) 0 0) 0 [] rfl O0.out (a) (0) zd (by first | rfl | (rw [hzl]; rfl)) HR3.out (fun e => ⟨(HCN.out e).1, rfl⟩) (by unfold maxLen; omega) (by omega) (by simp) ?_)
    intro v' w1 hown hgrow hat
    obtain ⟨ao', cap', e', ho⟩ := OwnsB.of hown
    rw [e']
    have hb := HB1.out.grown hgrow (by simp; omega) (by intro k e; simp [Value.ownBlock] at e; omega)
    have HO := hideM (OwnsB.mono (B' := w.heap.size) ho (by omega))
    have HB := hideM hb
    clear hown hgrow hat e' ho hb O0 HR3 HB1
    go_wp2_with fail
    go_ret
    exact ⟨ao', cap', rfl, HO.out, HB.out⟩
  · have he : cutAt a c D = a.map (·.add D) := if_neg hck
    rw [he] at hr3 hcn
    have HCN := hideM hcn
    have HR3 := hideM hr3
    clear he hcn hr3
    go_enter Tryz.func14, Tryz.ntmps14
    go_wp2_with (at_builtin; refine wpList_append_row _ rfl _ _ 22 rfl (w.heap.size + 1) 5 i0 (.int .u8 0) 1 Tryz.underlying22 hi hz0 hz1 hz2 rfl (.slice (some ⟨w.heap.size + 1, 0, none⟩) 0 0) 0 [] rfl O0.out (a.map (·.add D)) (c - D) zd (by first | rfl | (rw [hzl]; rfl)) HR3.out HCN.out (by unfold maxLen; omega) (by omega) (by simp) ?_)
    intro v' w1 hown hgrow hat
    obtain ⟨ao', cap', e', ho⟩ := OwnsB.of hown
    rw [e']
    have hb := HB1.out.grown hgrow (by simp; omega) (by intro k e; simp [Value.ownBlock] at e; omega)
    have HO := hideM (OwnsB.mono (B' := w.heap.size) ho (by omega))
    have HB := hideM hb
    clear hown hgrow hat e' ho hb O0 HR3 HB1
    go_wp2_with fail
    go_ret
    exact ⟨ao', cap', rfl, HO.out, HB.out⟩
set_option maxRecDepth 100000 in
set_option maxHeartbeats 3200000 in
theorem sinflate_long (v1 v2 : Value) (ao : Option Addr) (n cap : Nat) (w : World) (hl : ¬ n ≤ 65536) (hn : n ≤ 1048576) :
    Calls Tryz.prog 4 #[.slice ao n cap, v1, v2] w fun e w' => InfIs 7 [] 0 e w w' := by
  have hd1 : decide ((n : Int) > 65536) = true := decide_eq_true (by omega)
  have B0 : Hid (Below w.heap.size w (w.alloc (.cells #[.int .i64 7, .slice none 0 0, .int .i64 0] 24))) := (Below.refl _ _).alloc (Nat.le_refl _) _
  go_enter Tryz.func4, Tryz.ntmps4
  go_wp2_with fail
  exact bodyPost_ret (v := .agg #[.int .i64 7, .slice none 0 0, .int .i64 0]) (by simp [results, Tryz.results4, go_sem]) rfl ⟨none, 0, rfl, OwnsB.nil _ _ _, B0.out⟩
set_option maxRecDepth 100000 in
set_option maxHeartbeats 3200000 in
theorem sinflate_bad (v2 : Value) (s : Int) (ao : Option Addr) (n cap : Nat) (w : World) (hl : n ≤ 65536) (hs : ¬ (1 ≤ s ∧ s ≤ 32768)) :
    Calls Tryz.prog 4 #[.slice ao n cap, .int .i64 s, v2] w fun e w' => InfIs 3 [] 0 e w w' := by
  have hd1 : decide ((n : Int) > 65536) = false := decide_eq_false (by omega)
  have B0 : Hid (Below w.heap.size w (w.alloc (.cells #[.int .i64 3, .slice none 0 0, .int .i64 0] 24))) := (Below.refl _ _).alloc (Nat.le_refl _) _
  by_cases h1 : s < 1
  · have hd2 : decide (s < 1) = true := decide_eq_true h1
    go_enter Tryz.func4, Tryz.ntmps4
    go_wp2_with fail
    exact bodyPost_ret (v := .agg #[.int .i64 3, .slice none 0 0, .int .i64 0]) (by simp [results, Tryz.results4, go_sem]) rfl ⟨none, 0, rfl, OwnsB.nil _ _ _, B0.out⟩
  · have hd2 : decide (s < 1) = false := decide_eq_false h1
    have hd3 : decide (s > 32768) = true := decide_eq_true (by omega)
    go_enter Tryz.func4, Tryz.ntmps4
    go_wp2_with fail
    exact bodyPost_ret (v := .agg #[.int .i64 3, .slice none 0 0, .int .i64 0]) (by simp [results, Tryz.results4, go_sem]) rfl ⟨none, 0, rfl, OwnsB.nil _ _ _, B0.out⟩
theorem Rs3v.far2 {w w' : World} {g : Nat} {row : Option Nat} {v0 v1 v2 : Value} (h : Rs3v w g v0 v1 v2) (hg : w.grownBy w' row) (hne : some g ≠ row) : Rs3v w' g v0 v1 v2 := by
  have hb := hg.block g (World.block_lt_of_cell? _ _ h.c0) hne
  have hc : ∀ o, w'.cell? ⟨g, o, none⟩ = w.cell? ⟨g, o, none⟩ := fun o => World.cell?_of_block (w := w) (a := ⟨g, o, none⟩) hb
  exact ⟨(hc 0).trans h.c0, (hc 1).trans h.c1, (hc 2).trans h.c2, fun k => (World.frozen?_of_block (w := w) (a := ⟨g, k, none⟩) hb).trans (h.f k)⟩
theorem boxes2 (w : World) (v : Value) (i cl : Int) (tv : Value) (D s : Int) (tr tt : TypeId) :
    ((w.alloc (.cells #[v, .int .i64 i, .int .i64 cl] tr)).alloc (.cells #[tv, .int .i64 D, .int .i64 s, .int .i64 100000] tt)).cell? ⟨w.heap.size, 1, none⟩ = some (.int .i64 i) ∧ ((w.alloc (.cells #[v, .int .i64 i, .int .i64 cl] tr)).alloc (.cells #[tv, .int .i64 D, .int .i64 s, .int .i64 100000] tt)).cell? ⟨w.heap.size, 2, none⟩ = some (.int .i64 cl) ∧ ((w.alloc (.cells #[v, .int .i64 i, .int .i64 cl] tr)).alloc (.cells #[tv, .int .i64 D, .int .i64 s, .int .i64 100000] tt)).cell? ⟨w.heap.size + 1, 0, none⟩ = some tv ∧ ((w.alloc (.cells #[v, .int .i64 i, .int .i64 cl] tr)).alloc (.cells #[tv, .int .i64 D, .int .i64 s, .int .i64 100000] tt)).cell? ⟨w.heap.size + 1, 1, none⟩ = some (.int .i64 D) ∧ ((w.alloc (.cells #[v, .int .i64 i, .int .i64 cl] tr)).alloc (.cells #[tv, .int .i64 D, .int .i64 s, .int .i64 100000] tt)).cell? ⟨w.heap.size + 1, 2, none⟩ = some (.int .i64 s) ∧ ((w.alloc (.cells #[v, .int .i64 i, .int .i64 cl] tr)).alloc (.cells #[tv, .int .i64 D, .int .i64 s, .int .i64 100000] tt)).cell? ⟨w.heap.size + 1, 3, none⟩ = some (.int .i64 100000) := by
  refine ⟨?_, ?_, ?_, ?_, ?_, ?_⟩ <;> simp [go_sem]
set_option maxRecDepth 100000 in
set_option maxHeartbeats 12800000 in
theorem sinflate_any (ao bo : Option Addr) (cap cb : Nat) (zs d : List Int) (s : Nat) (k : Int) (cf : IC) (w : World) (hr : Row w ao zs) (hrb : ∀ ad, ao = some ad → ad.block < w.heap.size) (hz : Octets zs) (hl : zs.length ≤ 65536) (hs0 : 0 < s) (hs1 : s ≤ 32768) (ha : Arg w bo cb d) (hd : d.length ≤ 4194304) (hE : IEnds s zs (ic0 (lastN s d)) k cf) :
    Calls Tryz.prog 4 #[.slice ao zs.length cap, .int .i64 (s : Nat), .slice bo d.length cb] w fun e w' => InfIs k cf.out (iRes k cf) e w w' := by
  have hd1 : decide ((zs.length : Int) > 65536) = false := decide_eq_false (by omega)
  have hd2 : decide ((s : Int) < 1) = false := decide_eq_false (by omega)
  have hd3 : decide ((s : Int) > 32768) = false := decide_eq_false (by omega)
  have b0 : Below w.heap.size w (w.alloc (.cells #[.int .i64 0, .slice none 0 0, .int .i64 0] 24)) := (Below.refl _ _).alloc (Nat.le_refl _) _
  have B0 := hideM b0
  have R0 := hideM (rs3v_new w (.int .i64 0) (.slice none 0 0) (.int .i64 0) 24)
  have z0 : (w.alloc (.cells #[.int .i64 0, .slice none 0 0, .int .i64 0] 24)).heap.size = w.heap.size + 1 := by simp
  have ST := hideM (l5Start_any s d bo cb _ (ha.below b0) hs0 hs1 hd)
  rw [z0] at ST
  have HR0 := hideM (hr.below b0)
  have hD : (lastN s d).length ≤ 32768 := by rw [lastN_len]; omega
  have A7 : Hid (IAt s zs (lastN s d).length k cf 7 (fun _ => True) (0, 0) (lastN s d)) := by
    refine ⟨⟨Nat.le_refl _, by omega⟩, Nat.zero_le _, fun h => absurd rfl h, fun _ => ⟨ic0 (lastN s d), rfl, rfl, ic0_well _ _, ?_, ?_, hE, trivial⟩⟩
    · show [] = _
      rw [List.drop_length]
    · show lastN s d = _
      exact (lastN_all (by rw [lastN_len]; omega)).symm
  generalize lastN s d = X at *
  obtain ⟨D, hXD⟩ : ∃ D, X.length = D := ⟨_, rfl⟩
  rw [hXD] at A7 hD
  have HXD := hideM hXD
  have BL := hideM (fun W a c (h1 : Row W ao zs) (h2 : OwnsB 5 (w.heap.size + 1) W a c X) (h3 : w.heap.size + 1 ≤ W.heap.size) => l5Blocks_any ao zs.length cap zs rfl 0 a c X D s k cf (w.heap.size + 1) W h1 (fun ad e => Nat.lt_succ_of_lt (hrb ad e)) hz hl h2 h3 hs1 hD A7.out)
  rw [hXD] at BL
  clear hr hrb hz ha hE b0 A7 hXD
  generalize zs.length = Z at *
  go_enter Tryz.func4, Tryz.ntmps4
  go_wp2_with fail
  refine Calls.mono ST.out ?_
  rintro e w1 ⟨a, c, rfl, ho, hb⟩
  rw [HXD.out]
  have z1 : w.heap.size + 1 ≤ w1.heap.size := by have := hb.size; rw [z0] at this; exact this
  have HR1 := hideM (HR0.out.below (by rw [z0]; exact hb))
  have B1 := hideM (B0.out.trans (hb.mono (by omega)))
  have R1 := hideM (R0.out.below hb (by omega))
  have O1 := hideM ho
  clear ho hb ST HR0 B0 R0
  go_wp2_with fail
  refine Calls.mono (BL.out w1 a c HR1.out O1.out z1) ?_
  rintro e w2 ⟨i2, c2, a2, n2, al, rfl, ho2, hg2, hf2, hA2⟩
  have B2 := hideM (B1.out.grown hg2 (by omega) (fun g e => by have := OwnsB.based O1.out g e; omega))
  have R2 := hideM (R1.out.far2 hg2 (fun e => by have := OwnsB.based O1.out _ e.symm; omega))
  have z2 : w1.heap.size ≤ w2.heap.size := hg2.size
  obtain ⟨hout, hbad, hgood⟩ := hA2.ended
  have hln := hA2.len
  have M2 := hideM ho2.mine
  have HBAD := hideM hbad
  have HGOOD := hideM hgood
  have HOUT := hideM hout
  clear ho2 hg2 hf2 hA2 hout hbad hgood B1 R1 HR1 O1 BL
  have bb : Below w2.heap.size w2 ((w2.alloc (.cells #[.slice ao Z cap, .int .i64 ((i2 : Nat) : Int), .int .i64 c2] 33)).alloc (.cells #[.slice a2 al.length n2, .int .i64 (D : Nat), .int .i64 (s : Nat), .int .i64 100000] 35)) := ((Below.refl _ _).alloc (Nat.le_refl _) _).alloc (by simp) _
  have KR := hideM (boxes2 w2 (.slice ao Z cap) ((i2 : Nat) : Int) c2 (.slice a2 al.length n2) (D : Nat) (s : Nat) 33 35)
  have B3 := hideM (B2.out.trans (bb.mono (by omega)))
  have R3 := hideM (R2.out.below bb (by omega))
  have M3 := hideM (M2.out.below bb)
  clear bb B2 R2 M2
  go_upto_region 6 with fail
  have z3 : ((w2.alloc (.cells #[.slice ao Z cap, .int .i64 ((i2 : Nat) : Int), .int .i64 c2] 33)).alloc (.cells #[.slice a2 al.length n2, .int .i64 (D : Nat), .int .i64 (s : Nat), .int .i64 100000] 35)).heap.size = w2.heap.size + 2 := by simp
  generalize (w2.alloc (.cells #[.slice ao Z cap, .int .i64 ((i2 : Nat) : Int), .int .i64 c2] 33)).alloc (.cells #[.slice a2 al.length n2, .int .i64 (D : Nat), .int .i64 (s : Nat), .int .i64 100000] 35) = w3 at *
  have OUT := hideM (fun W (hW : Below w3.heap.size w3 W) => l5Out_any a2 n2 al D s W (M3.out.row.below hW) M3.out.fits M3.out.most M3.out.bare hln.1 (by omega))
  generalize al.drop D = zd at *
  obtain ⟨p1, p2, t0, t1, t2, t3⟩ := KR.out
  obtain ⟨g2, hg2⟩ : ∃ g, w2.heap.size = g := ⟨_, rfl⟩
  rw [hg2] at p1 p2 t0 t1 t2 t3 z3 z2 ⊢
  clear hg2 KR M3
  by_cases hc2 : c2 = 0
  · subst hc2
    obtain ⟨hk, hres⟩ := HGOOD.out rfl
    have HK := hideM hk
    have HRES := hideM hres
    clear HGOOD HBAD hk hres
    go_upto_region 8 with fail
    go_region_with (first | (go_at_call 14; refine Calls.mono (OUT.out _ (by first | exact (Below.refl _ _).drew | exact below_drewN' _ _ _ | exact Below.refl _ _)) ?_; rintro e w4 ⟨a4, c4, rfl, ho4, hb4⟩; have hb5 : Below w3.heap.size w3 w4 := (by first | exact hb4 | exact (Below.refl _ _).drew.trans hb4 | exact (below_drewN' _ _ _).trans hb4); obtain ⟨r0, r1, r2, rf⟩ := R3.out.below hb5 (by omega); have rf0 := rf 0; have rf1 := rf 1; have rf2 := rf 2; have q1 := (hb5.cell (p := ⟨g2, 1, none⟩) (by dsimp only; omega)).trans p1; have q2 := (hb5.cell (p := ⟨g2, 2, none⟩) (by dsimp only; omega)).trans p2; have hgw : w.heap.size < w4.heap.size := Nat.lt_of_lt_of_le (by omega) hb5.size; have ho5 : OwnsB 5 w3.heap.size w4 a4 c4 zd := OwnsB.mono ho4 (by first | exact Nat.le_refl _ | (simp; done)); clear rf ho4))
    all_goals
      have R4 := hideM (R3.out.below hb5 (by omega))
      have B4 := hideM (B3.out.trans (hb5.mono (by omega)))
      have E := hideM (R4.out.set (.int .i64 1) (.slice a4 zd.length c4) (.int .i64 ((i2 : Nat) : Int)))
      have z4 : w3.heap.size ≤ w4.heap.size := hb5.size
      have O5 := hideM (OwnsB.grown (OwnsB.mono (B' := w.heap.size) ho5 (by omega)) E.out.2 (fun k e e2 => by have := OwnsB.based ho5 k e2; simp at e; omega))
      have B5 := hideM (B4.out.grown E.out.2 (by omega) (fun k e => by simp at e; omega))
      clear ho5 hb4 hb5
      go_wp2_with fail
      obtain ⟨⟨y0, y1, y2, _⟩, _⟩ := E.out
      exact bodyPost_ret (v := .agg #[(.int .i64 1), .slice a4 zd.length c4, (.int .i64 ((i2 : Nat) : Int))]) (by simp [results, Tryz.results4, go_sem, y0, y1, y2]) rfl (by show InfIs k cf.out (iRes k cf) _ _ _; rw [HOUT.out, HRES.out, HK.out]; first | exact ⟨a4, c4, rfl, O5.out, B5.out⟩ | exact ⟨a4, c4, rfl, O5.out.below (Below.refl _ _).drew, B5.out.trans (Below.refl _ _).drew⟩)
  · have hcb : (c2 != 0) = true := by simp [hc2]
    obtain ⟨hk, hres⟩ := HBAD.out hc2
    have HK := hideM hk
    have HRES := hideM hres
    clear HGOOD HBAD hk hres hc2
    go_upto_region 7 with fail
    go_region_with (first | (go_at_call 14; refine Calls.mono (OUT.out _ (by first | exact (Below.refl _ _).drew | exact below_drewN' _ _ _ | exact Below.refl _ _)) ?_; rintro e w4 ⟨a4, c4, rfl, ho4, hb4⟩; have hb5 : Below w3.heap.size w3 w4 := (by first | exact hb4 | exact (Below.refl _ _).drew.trans hb4 | exact (below_drewN' _ _ _).trans hb4); obtain ⟨r0, r1, r2, rf⟩ := R3.out.below hb5 (by omega); have rf0 := rf 0; have rf1 := rf 1; have rf2 := rf 2; have q1 := (hb5.cell (p := ⟨g2, 1, none⟩) (by dsimp only; omega)).trans p1; have q2 := (hb5.cell (p := ⟨g2, 2, none⟩) (by dsimp only; omega)).trans p2; have hgw : w.heap.size < w4.heap.size := Nat.lt_of_lt_of_le (by omega) hb5.size; have ho5 : OwnsB 5 w3.heap.size w4 a4 c4 zd := OwnsB.mono ho4 (by first | exact Nat.le_refl _ | (simp; done)); clear rf ho4))
    all_goals
      have R4 := hideM (R3.out.below hb5 (by omega))
      have B4 := hideM (B3.out.trans (hb5.mono (by omega)))
      have E := hideM (R4.out.set (.int .i64 c2) (.slice a4 zd.length c4) (.int .i64 0))
      have z4 : w3.heap.size ≤ w4.heap.size := hb5.size
      have O5 := hideM (OwnsB.grown (OwnsB.mono (B' := w.heap.size) ho5 (by omega)) E.out.2 (fun k e e2 => by have := OwnsB.based ho5 k e2; simp at e; omega))
      have B5 := hideM (B4.out.grown E.out.2 (by omega) (fun k e => by simp at e; omega))
      clear ho5 hb4 hb5
      go_wp2_with fail
      obtain ⟨⟨y0, y1, y2, _⟩, _⟩ := E.out
      exact bodyPost_ret (v := .agg #[(.int .i64 c2), .slice a4 zd.length c4, (.int .i64 0)]) (by simp [results, Tryz.results4, go_sem, y0, y1, y2]) rfl (by show InfIs k cf.out (iRes k cf) _ _ _; rw [HOUT.out, HRES.out, HK.out]; first | exact ⟨a4, c4, rfl, O5.out, B5.out⟩ | exact ⟨a4, c4, rfl, O5.out.below (Below.refl _ _).drew, B5.out.trans (Below.refl _ _).drew⟩)
/-- Both answer the same. -/
theorem inflate_both (zs d : List Int) (a : Int) (hz : Octets zs) (hn : zs.length ≤ 1048576) (hd : d.length ≤ 1048576) (ha0 : -9223372036854775808 ≤ a) (ha1 : a ≤ 9223372036854775807) :
    ∃ (K : Int) (OUT : List Int) (N : Int), OUT.length ≤ 100000 ∧
      (∀ (W : World) (bo eo : Addr), Row W (some bo) zs → bo.block < W.heap.size → Row W (some eo) d → eo.block < W.heap.size → Calls Tryz.prog 4 #[.slice (some bo) zs.length zs.length, .int .i64 a, .slice (some eo) d.length d.length] W fun e W' => InfIs K OUT N e W W') ∧
      (∀ (W : World) (bo eo : Addr), Row W (some bo) zs → bo.block < W.heap.size → Row W (some eo) d → eo.block < W.heap.size → Glob W → Calls Tryz.prog 6 #[.slice (some bo) zs.length zs.length, .int .i64 a, .slice (some eo) d.length d.length] W fun e W' => InfIs K OUT N e W W') := by
  by_cases h1 : zs.length ≤ 65536
  · by_cases h2 : 1 ≤ a ∧ a ≤ 32768
    · obtain ⟨s, rfl⟩ : ∃ s : Nat, a = (s : Int) := ⟨a.toNat, by omega⟩
      obtain ⟨k, cf, hE⟩ := IEnds.ex (s := s) h1 _ (ic0 (lastN s d)) (ic0_well zs (lastN s d)) (Nat.lt_succ_self _)
      refine ⟨k, cf.out, iRes k cf, (hE.well h1 (ic0_well _ _)).1, fun W bo eo hr hb hrd hbd => ?_, fun W bo eo hr hb hrd hbd hG => ?_⟩
      · exact sinflate_any (some bo) (some eo) _ _ zs d s k cf W hr (fun ad e => by cases e; exact hb) hz h1 (by omega) (by omega) ⟨hrd, Nat.le_refl _, by unfold maxLen; omega, fun ad e => by cases e; exact hbd, fun e => by cases e⟩ (by omega) hE
      · refine Calls.mono (iinflate_any (some bo) (some eo) _ _ zs d s W hr (fun e => by cases e) hz h1 (by omega) (by omega) hrd (Nat.le_refl _) (by unfold maxLen; omega) (fun ad e => by cases e; exact hbd) hG) ?_
        rintro e w' ⟨k', cf', hE', h⟩
        obtain ⟨rfl, rfl⟩ := hE.det hE'
        exact h
    · exact ⟨3, [], 0, by simp, fun W bo eo _ _ _ _ => sinflate_bad _ a (some bo) _ _ W h1 h2, fun W bo eo _ _ _ _ _ => iinflate_bad _ a (some bo) _ _ W h1 h2⟩
  · exact ⟨7, [], 0, by simp, fun W bo eo _ _ _ _ => sinflate_long _ _ (some bo) _ _ W h1 hn, fun W bo eo _ _ _ _ _ => iinflate_long _ _ (some bo) _ _ W h1⟩
end Go.Proofs.YtlfabilmilkboaaGreatDoor
