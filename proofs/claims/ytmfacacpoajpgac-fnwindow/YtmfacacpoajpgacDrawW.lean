import Derived.Test.YtmfacacpoajpgacDraw
import Derived.Test.YtmfacacpoajpgacWinN
import Derived.Laws.BytesArg
import Derived.Deep.Cut
import Derived.Deep.CutRange
namespace Go.Proofs.Ytmfacacpoajpgac
open Go.RowKit
attribute [local go_sem ↓] Go.wp_at_zero Go.wp_at_succ
set_option linter.unusedVariables false

/-- The string over bytes that lie anywhere. -/
theorem conv_row (w : World) (ao : Option Addr) (cap : Nat) (zs : List Int) (h : Row w ao zs) :
    (convert 37 9 (.slice ao zs.length cap)).run Try.prog w = .ok (.string (strOfNums zs)) w := by
  cases ao with
  | none =>
    have : zs = [] := List.eq_nil_of_length_eq_zero (h.none_len rfl)
    subst this
    rw [run_convert_bytes_nil w 37 5 Try.underlying37 Try.underlying5 _ _ 9 Try.underlying9]
    rfl
  | some ad =>
    rcases Nat.eq_zero_or_pos zs.length with h0 | h0
    · have : zs = [] := List.eq_nil_of_length_eq_zero h0
      subst this
      rw [run_convert_bytes_string w 37 9 5 _ _ _ Try.underlying37 Try.underlying5 Try.underlying9, List.length_nil, run_bytesToString w ad 0 cap [] (by simpa using run_loadCells_list (P := Try.prog) w ad [] (by simp))]
      rfl
    · obtain ⟨b, off, e, hc⟩ := h.at h0
      simp only [Option.some.injEq] at e
      subst e
      exact run_convert_bytes_arg w 37 5 Try.underlying37 Try.underlying5 b off zs.length cap zs rfl hc 9 Try.underlying9
theorem lwBytes_same (ao bo : Option Addr) (ca cb : Nat) (zs : List Int) (w : World) (ha : Row w ao zs) (hb : Row w bo zs) :
    Calls Try.prog 26 #[.slice ao zs.length ca, .slice bo zs.length cb] w fun e w' => e = .returned (.bool true) ∧ w' = w := by
  have h1 := conv_row w ao ca zs ha
  have h2 := conv_row w bo cb zs hb
  clear ha hb
  generalize strOfNums zs = S at *
  go_enter Try.func26, Try.ntmps26
  go_wp2_with fail
  go_ret
  exact ⟨rfl, rfl⟩

/-- The cursor's row lies below B. -/
def Lies (co : Option Addr) (cs : List Int) (B : Nat) : Prop := ∀ ad, co = some ad → 0 < cs.length → ad.block < B
theorem win_set1 {w : World} {p : Nat} {s : Int} {v : Value} (h : Win w p s v) (v' : Value) : Win (w.setCell ⟨p, 1, none⟩ v') p s v' := by
  obtain ⟨c0, c1, f0, f1⟩ := h
  refine ⟨?_, ?_, ?_, ?_⟩
  · rw [World.cell?_setCell_other _ _ _ _ (by simp)]; exact c0
  · rw [World.cell?_setCell_same _ _ _ c1]
  · simp [World.frozen?_setCell, f0]
  · simp [World.frozen?_setCell, f1]
set_option maxRecDepth 100000 in
set_option maxHeartbeats 6400000 in
theorem l4Draw_any (p : Nat) (co : Option Addr) (cc : Nat) (cs : List Int) (w : World) (hc : Cur w p co cc cs) (hl : Lies co cs w.heap.size) :
    Calls Try.prog 49 #[.pointer (some ⟨p, 0, none⟩)] w fun e w' => (∃ s ao cap d, e = .returned (.agg #[.int .i64 s, .slice ao (List.length d) cap]) ∧ 0 ≤ s ∧ s ≤ 32769 ∧ Mine w.heap.size w' ao cap d ∧ d.length ≤ 32769) ∧ Cur w' p co cc cs ∧ w.grownBy w' (some p) := by
  obtain ⟨i0, hi, hz0, hz1, hz2⟩ := info_parts Try.info_u8
  have hp := hc.lt
  have HL : Hid (Lies co cs w.heap.size) := hl
  have hW := win_new w 0 (.slice none 0 0) 41
  have hc0 := hc.grown (World.grownBy_alloc w (.cells #[.int .i64 0, .slice none 0 0] 41) none) (by simp) (by simp)
  have hg0 := World.grownBy_alloc w (.cells #[.int .i64 0, .slice none 0 0] 41) (some p)
  have HC0 := hide1 hc0
  have HG0 := hide1 hg0
  have HW0 := hide1 hW
  clear hc hl hc0 hg0 hW
  go_enter Try.func49, Try.ntmps49
  go_wp2_with fail
  refine (l1Below_any p co cc cs 12 _ HC0.out (by omega) (by omega)).mono ?_
  rintro e w1 ⟨⟨x, rfl, x0, x1⟩, hc1, hg1⟩
  have HG1 := hide1 (grownBy_trans HG0.out hg1)
  have HW1 := hide1 (HW0.out.grown hg1 (by simp; omega))
  have HC1 := hide1 hc1
  clear hc1 hg1 HC0 HG0 HW0
  go_wp2_with fail
  refine (l1Once_any p co cc cs 12 _ HC1.out (by omega) (by omega)).mono ?_
  rintro e w2 ⟨⟨b2, rfl⟩, hc2, hg2⟩
  have HG2 := hide1 (grownBy_trans HG1.out hg2)
  have HW2 := hide1 (HW1.out.grown hg2 (by simp; omega))
  have HC2 := hide1 hc2
  clear hc2 hg2 HC1 HG1 HW1
  go_upto_if 9 with fail
  go_cut [3] from 5 to 28 (fun v wx => ∃ s : Int, v = .int .i64 s ∧ 0 ≤ s ∧ s ≤ 32769 ∧ Cur wx p co cc cs ∧ w.grownBy wx (some p) ∧ Win wx w.heap.size 0 (.slice none 0 0))
  case first =>
    cases b2 with
    | false =>
      go_wp2_with fail
      go_meet
      exact ⟨_, rfl, by omega, by omega, HC2.out, HG2.out, HW2.out⟩
    | true =>
      go_wp2_with fail
      refine (l1Below_any p co cc cs 2 _ HC2.out (by omega) (by omega)).mono ?_
      rintro e w3 ⟨⟨y, rfl, y0, y1⟩, hc3, hg3⟩
      have h1 := grownBy_trans HG2.out hg3
      have h2 := HW2.out.grown hg3 (by simp; omega)
      clear hg3
      go_wp2_with fail
      go_meet
      exact ⟨_, rfl, by omega, by omega, hc3, h1, h2⟩
  case rest =>
    obtain ⟨s, rfl, s0, s1, hc3, hg3, hW3⟩ := hcut
    have HC3 := hide1 hc3
    have HG3 := hide1 hg3
    have HW3 := hide1 hW3
    clear hc3 hg3 hW3 HC2 HG2 HW2
    go_wp2_with fail
    refine (l1Once_any p co cc cs 15 _ HC3.out (by omega) (by omega)).mono ?_
    rintro e w4 ⟨⟨b4, rfl⟩, hc4, hg4⟩
    have HG4 := hide1 (grownBy_trans HG3.out hg4)
    have HW4 := hide1 (HW3.out.grown hg4 (by simp; omega))
    have HC4 := hide1 hc4
    clear hc4 hg4 HC3 HG3 HW3
    go_upto_if 14 with fail
    go_cut [3] from 5 to 28 (fun v wx => ∃ s : Int, v = .int .i64 s ∧ 0 ≤ s ∧ s ≤ 32769 ∧ Cur wx p co cc cs ∧ w.grownBy wx (some p) ∧ Win wx w.heap.size 0 (.slice none 0 0))
    case first =>
      cases b4 with
      | false =>
        go_wp2_with fail
        go_meet
        exact ⟨_, rfl, by omega, by omega, HC4.out, HG4.out, HW4.out⟩
      | true =>
        go_wp2_with fail
        go_meet
        exact ⟨_, rfl, by omega, by omega, HC4.out, HG4.out, HW4.out⟩
    case rest =>
      clear s0 s1 HC4 HG4 HW4
      obtain ⟨s, rfl, s0, s1, hc5, hg5, hW5⟩ := hcut
      have HG5 := hide1 hg5
      have HW5 := hide1 hW5
      have HC5 := hide1 hc5
      clear hc5 hg5 hW5
      go_wp2_with fail
      refine (l1Below_any p co cc cs 14 _ HC5.out (by omega) (by omega)).mono ?_
      rintro e w6 ⟨⟨y, rfl, y0, y1⟩, hc6, hg6⟩
      have HG6 := hide1 (grownBy_trans HG5.out hg6)
      have HW6 := hide1 (HW5.out.grown hg6 (by simp; omega))
      have HC6 := hide1 hc6
      obtain ⟨n, rfl⟩ : ∃ n : Nat, y = n := ⟨y.toNat, by omega⟩
      clear hc6 hg6 HC5 HG5 HW5
      go_wp2_with fail
      refine (l1Some_any p co cc cs n w6 HC6.out (by omega) (fun ad e h => by have := HL.out ad e h; have := HG6.out.size; omega)).mono ?_
      rintro e w7 ⟨⟨ao7, cap7, d7, rfl, ho7, _, hn7⟩, hc7, hg7⟩
      have z6 := HG6.out.size
      have hd7 : d7.length ≤ 14 := by omega
      have zw6 : w.heap.size < w6.heap.size := HW6.out.lt
      clear hn7
      have HG7 := hide1 (grownBy_trans HG6.out hg7)
      have HW7 := hide1 (HW6.out.grown hg7 (by simp; omega))
      have zw : w.heap.size < w7.heap.size := HW7.out.lt
      have HC8 := hide1 (hc7.grown (World.grownBy_alloc w7 (.cells #[.int .i64 s, .slice ao7 d7.length cap7] 41) none) (by simp) (by simp))
      have HM8 := hide1 (ho7.mine.below ((Below.refl _ _).alloc (Nat.le_refl _) (.cells #[.int .i64 s, .slice ao7 d7.length cap7] 41)))
      have HW8 := hide1 (HW7.out.alloc (.cells #[.int .i64 s, .slice ao7 d7.length cap7] 41))
      have HV8 := hide1 (win_new w7 s (.slice ao7 d7.length cap7) 41)
      have HG8 := hide1 (grownBy_trans HG7.out (World.grownBy_alloc w7 (.cells #[.int .i64 s, .slice ao7 d7.length cap7] 41) (some p)))
      clear ho7 hc7 hg7 HC6 HG6 HW6 HG7 HW7
      go_wp2_with fail
      refine (l1Once_any p co cc cs 25 _ HC8.out (by omega) (by omega)).mono ?_
      rintro e w9 ⟨⟨b9, rfl⟩, hc9, hg9⟩
      have hp7 : p < w7.heap.size := by omega
      have HG9 := hide1 (grownBy_trans HG8.out hg9)
      have HW9 := hide1 (HW8.out.grown hg9 (by simp; omega))
      have HV9 := hide1 (HV8.out.grown hg9 (by simp; omega))
      have HM9 := hide1 (HM8.out.grown hg9 (by intro k e; simp at e; subst e; exact HM8.out.far (by omega)))
      have HC9 := hide1 hc9
      clear hc9 hg9 HC8 HG8 HW8 HV8 HM8
      cases b9 with
      | false =>
        obtain ⟨v0, v1⟩ := HV9.out.two
        obtain ⟨x0, x1, f0, f1⟩ := HW9.out
        obtain ⟨k3, k4⟩ := win_set HW9.out s (.slice ao7 d7.length cap7)
        obtain ⟨y0, y1, _, _⟩ := k3
        have hM := HM9.out.grown k4 (by intro k e; simp at e; subst e; exact HM9.out.far (by omega))
        have hC := HC9.out.grown k4 (by simp; omega) (fun ad e h => by have := HL.out ad e h; simp; omega)
        have hG := grownBy_new HG9.out k4 (by intro g e; simp at e; omega)
        clear k4
        go_wp2_with fail
        exact bodyPost_ret (v := .agg #[.int .i64 s, .slice ao7 d7.length cap7]) (by simp [results, Try.results49, go_sem, y0, y1]) rfl ⟨⟨s, ao7, cap7, d7, rfl, s0, s1, hM.mono (by omega), by omega⟩, hC, hG⟩
      | true =>
        go_wp2_with fail
        refine (l1Below_any p co cc cs 2 _ HC9.out (by omega) (by omega)).mono ?_
        rintro e w10 ⟨⟨z, rfl, z0, z1⟩, hc10, hg10⟩
        obtain ⟨m, hm⟩ : ∃ m : Nat, 32768 + z = (m : Int) := ⟨(32768 + z).toNat, by omega⟩
        have hm1 : m ≤ 32769 := by omega
        have hm63 : m ≤ maxLen := by unfold maxLen; omega
        have HG10 := hide1 (grownBy_trans HG9.out hg10)
        have HW10 := hide1 (HW9.out.grown hg10 (by simp; omega))
        have HV10 := hide1 (HV9.out.grown hg10 (by simp; omega))
        have HC10 := hide1 hc10
        have zz := HV10.out.lt
        clear hc10 hg10 HC9 HG9 HW9 HV9 HM9
        go_wp2_with (at_make; refine wpList_make_full _ rfl _ _ 37 rfl w10.heap.size 5 i0 (.int .u8 0) 1 Try.underlying37 hi hz0 hz1 _ _ _ _ m rfl rfl rfl rfl (by rw [hz2]; omega) hm63 (Nat.le_refl _) ?_)
        intro w11 hown hgrow
        rw [toList_madeCells_one, ← List.map_replicate] at hown
        obtain ⟨D, hD⟩ : ∃ D : List Int, List.replicate m 0 = D := ⟨_, rfl⟩
        rw [hD] at hown
        have hDl : D.length = m := by rw [← hD]; simp
        have ho11 : OwnsB 5 w10.heap.size w11 (some ⟨w10.heap.size, 0, none⟩) m D := by show World.ownsRow _ _ _ _ _ _ _; rw [hDl]; exact hown
        have HG11 := hide1 (grownBy_new HG10.out hgrow (by simp))
        have HW11 := hide1 (HW10.out.grown hgrow (by simp))
        have HV11 := hide1 (HV10.out.grown hgrow (by simp))
        have HC11 := hide1 (HC10.out.grown hgrow (by simp) (by simp))
        have M11 := ho11.mine
        have hk := grownBy_setCell w11 ⟨w7.heap.size, 1, none⟩ (.slice (some ⟨w10.heap.size, 0, none⟩) m m)
        have M12 := M11.grown hk (by intro k e; simp at e; subst e; exact M11.far (by omega))
        have HV12 := hide1 (win_set1 HV11.out (.slice (some ⟨w10.heap.size, 0, none⟩) m m))
        have HW12 := hide1 (HW11.out.grown hk (by simp; omega))
        have HC12 := hide1 (HC11.out.grown hk (by simp; omega) (fun ad e h => by have := HL.out ad e h; simp; omega))
        have HG12 := hide1 (grownBy_new HG11.out hk (by intro g e; simp at e; omega))
        obtain ⟨u0, u1, g0, g1⟩ := HV11.out
        obtain ⟨v0, v1⟩ := HV12.out.two
        obtain ⟨x0, x1, f0, f1⟩ := HW12.out
        obtain ⟨k3, k4⟩ := win_set HW12.out s (.slice (some ⟨w10.heap.size, 0, none⟩) m m)
        obtain ⟨y0, y1, _, _⟩ := k3
        have hM := M12.grown k4 (by intro k e; simp at e; subst e; exact M12.far (by omega))
        have hC := HC12.out.grown k4 (by simp; omega) (fun ad e h => by have := HL.out ad e h; simp; omega)
        have hG := grownBy_new HG12.out k4 (by intro g e; simp at e; omega)
        have HDL := hide1 hDl
        clear hown hgrow hD hk k4 M11 M12 hDl ho11
        go_wp2_with fail
        refine bodyPost_ret (v := .agg #[.int .i64 s, .slice (some ⟨w10.heap.size, 0, none⟩) m m]) (by simp [results, Try.results49, go_sem, y0, y1]) rfl ⟨⟨s, _, _, D, by rw [HDL.out], s0, s1, hM.mono (by omega), by rw [HDL.out]; omega⟩, hC, hG⟩

set_option maxRecDepth 100000 in
set_option maxHeartbeats 3200000 in
theorem drawWin_any (co : Option Addr) (cc : Nat) (cs : List Int) (w : World) (hr : Row w co cs) (ho : Octets cs) (hl : cs.length ≤ 1048576) :
    Calls Try.prog 20 #[.slice co cs.length cc] w fun e w' => (∃ s ao cap d, e = .returned (.tuple #[.int .i64 s, .slice ao (List.length d) cap]) ∧ 0 ≤ s ∧ s ≤ 32769 ∧ Mine w.heap.size w' ao cap d ∧ d.length ≤ 32769) ∧ Below w.heap.size w w' := by
  have HL : Hid (Lies co cs w.heap.size) := hr.lives
  have HR := hide1 hr
  clear hr
  go_enter Try.func20, Try.ntmps20
  go_wp2_with fail
  refine (l1New_any co cc cs w HR.out hl).mono ?_
  rintro e w1 ⟨p, rfl, ⟨h, hs⟩, hp, hb1, hlt⟩
  subst hp
  have hc1 : Cur w1 w.heap.size co cc cs := ⟨0, h, Nat.zero_le _, hs, HR.out.below hb1, ho, fun ad e h => by have := HL.out ad e h; omega, hl⟩
  have HC1 := hide1 hc1
  clear hs hc1
  go_wp2_with fail
  refine (l4Draw_any w.heap.size co cc cs w1 HC1.out (fun ad e h => by have := HL.out ad e h; omega)).mono ?_
  rintro e w2 ⟨⟨s, ao, cap, d, rfl, s0, s1, hM, hd⟩, _, hg2⟩
  have hb2 : Below w.heap.size w w2 := hb1.grown hg2 hb1.size (by intro k e; simp at e; omega)
  have X := win_new w2 s (.slice ao d.length cap) 41
  have M3 := hM.below ((Below.refl _ _).alloc (Nat.le_refl _) (.cells #[.int .i64 s, .slice ao d.length cap] 41))
  have B3 := hb2.alloc hb2.size (.cells #[.int .i64 s, .slice ao d.length cap] 41)
  obtain ⟨x0, x1⟩ := X.two
  have hz := hb1.size
  clear hM hg2 hb2 HC1 X
  go_wp2_with fail
  go_quiet (fail)
  go_wp2_with fail
  refine bodyPost_ret (v := .tuple #[.int .i64 s, .slice ao d.length cap]) (by simp [results, Try.results20, go_sem]) rfl ⟨⟨s, ao, cap, d, rfl, s0, s1, (M3.mono hz).below (below_drewN' _ _ _), hd⟩, B3.trans (below_drewN' _ _ _)⟩

end Go.Proofs.Ytmfacacpoajpgac
