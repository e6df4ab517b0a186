import Derived.Deep.RegionWith
import Derived.Deep.CutRange
import Derived.Deep.LoopGhost
import Derived.Test.YtlffdadmgginmaeDoorMA
import Derived.Test.YtlffdadmgginmaeDoorMB
import Derived.Test.YtlffdadmgginmaeDoorMC
namespace Go.Proofs.YtlffdadmgginmaeDoor
open Go.RowKit
attribute [local go_sem ↓] Go.wp_at_zero Go.wp_at_succ
set_option linter.unusedVariables false

theorem bdP_yes (i : Nat) : bdP (i, 0) true = (i, 3) := by unfold bdP; rw [if_pos ⟨rfl, rfl⟩]
theorem bdP_not (i : Nat) (cl : Int) : bdP (i, cl) false = (i, cl) := by unfold bdP; rw [if_neg (fun h => by cases h.2)]
theorem l5Bad_any (ao : Option Addr) (n cap i : Nat) (cl : Int) (b : Bool) (w : World) :
    Calls Tryd.prog 43 #[.agg #[.slice ao n cap, .int .i64 (i : Nat), .int .i64 cl], .bool b] w fun e w' => e = .returned (.agg #[.slice ao n cap, .int .i64 ((bdP (i, cl) b).1 : Nat), .int .i64 (bdP (i, cl) b).2]) ∧ Below w.heap.size w w' := by
  by_cases hc : cl = 0
  · subst hc
    cases b with
    | true =>
      rw [bdP_yes]
      go_enter Tryd.func43, Tryd.ntmps43
      go_wp2_with fail
      exact bodyPost_ret (v := .agg #[.slice ao n cap, .int .i64 (i : Nat), .int .i64 3]) (by simp [results, Tryd.results43, go_sem]) rfl ⟨rfl, ((Below.refl _ _).alloc (Nat.le_refl _) _).alloc (by simp) _⟩
    | false =>
      rw [bdP_not]
      go_enter Tryd.func43, Tryd.ntmps43
      go_wp2_with fail
      exact bodyPost_ret (v := .agg #[.slice ao n cap, .int .i64 (i : Nat), .int .i64 0]) (by simp [results, Tryd.results43, go_sem]) rfl ⟨rfl, ((Below.refl _ _).alloc (Nat.le_refl _) _).alloc (by simp) _⟩
  · have hb : (cl == 0) = false := by simp [hc]
    rw [bdP_no (show (i, cl).2 ≠ 0 from hc)]
    clear hc
    go_enter Tryd.func43, Tryd.ntmps43
    go_wp2_with fail
    exact bodyPost_ret (v := .agg #[.slice ao n cap, .int .i64 (i : Nat), .int .i64 cl]) (by simp [results, Tryd.results43, go_sem]) rfl ⟨rfl, ((Below.refl _ _).alloc (Nat.le_refl _) _).alloc (by simp) _⟩
theorem field_step (N i k n : Nat) (h : k < n) : field N (i + k) (n - k) = 2 * field N (i + k + 1) (n - (k + 1)) + N / 2 ^ (i + k) % 2 := by
  rw [show n - k = (n - (k + 1)) + 1 from by omega, field_succ]
set_option maxRecDepth 100000 in
set_option maxHeartbeats 3200000 in
theorem l5Take_any (ao : Option Addr) (cap : Nat) (zs : List Int) (i n : Nat) (cl : Int) (w : World) (hr : Row w ao zs) (hz : Octets zs) (hzl : zs.length ≤ 65536) (hi : i ≤ 8 * zs.length) (hn : n ≤ 32) :
    Calls Tryd.prog 42 #[.agg #[.slice ao zs.length cap, .int .i64 (i : Nat), .int .i64 cl], .int .i64 (n : Nat)] w fun e w' =>
      e = .returned (.tuple #[.agg #[.slice ao zs.length cap, .int .i64 ((tk zs (i, cl) n).1.1 : Nat), .int .i64 (tk zs (i, cl) n).1.2], .int .i64 ((tk zs (i, cl) n).2 : Nat)]) ∧ Below w.heap.size w w' := by
  by_cases hc : cl = 0
  · subst hc
    by_cases hb : i + n ≤ 8 * zs.length
    · have ht : tk zs (i, 0) n = ((i + n, 0), field (bnum zs) i n) := by unfold tk; rw [if_pos rfl, if_pos hb]
      rw [ht]
      have hbi : ¬ (8 * (zs.length : Int) < (i : Int) + (n : Int)) := by omega
      have HR : Hid (∀ k, k < n → ∀ W, Below w.heap.size w W → Calls Tryd.prog 72 #[.slice ao zs.length cap, .int .i64 ((i : Int) + (k : Int))] W fun e w' => e = .returned (.int .u64 (bnum zs / 2 ^ (i + k) % 2 : Nat)) ∧ w' = W) := fun k hk W hW => l2Bit_any ao cap zs (i + k) W (hr.below hW) hz (by omega) (by omega)
      have HF := hideM (fun k (h : k < n) => field_step (bnum zs) i k n h)
      have HF0 : Hid (field (bnum zs) (i + n) (n - n) = 0) := by show _ = _; rw [Nat.sub_self, field_zero]
      have HFL := hideM (fun s m => field_lt (bnum zs) s m)
      have HF1 : Hid (field (bnum zs) (i + 0) (n - 0) = field (bnum zs) i n) := rfl
      generalize hG : bnum zs = N at *
      clear hG hr hz ht hb
      generalize hL : zs.length = Z at *
      clear hL
      go_enter Tryd.func42, Tryd.ntmps42
      go_wp2_with fail
      go_loopw [6, 7] (fun v kk wr => ∃ k : Nat, k ≤ n ∧ v = .int .i64 (field N (i + k) (n - k) : Nat) ∧ kk = .int .i64 ((k : Int) - 1) ∧ wr = (w.alloc (.cells #[.slice ao Z cap, .int .i64 (i : Nat), .int .i64 0] 43)).alloc (.cells #[.slice none 0 0, .int .i64 0, .int .i64 0] 43)) (fun _ kk _ => (intOf kk + 1).toNat)
      case atStart => exact ⟨n, Nat.le_refl _, by rw [HF0.out]; rfl, rfl, rfl⟩
      case round =>
        obtain ⟨k, hk, rfl, rfl, rfl⟩ := hrel
        cases k with
        | succ k =>
          have HK := hideM (HR.out k (by omega) _ (((Below.refl w.heap.size w).alloc (Nat.le_refl _) (.cells #[.slice ao Z cap, .int .i64 (i : Nat), .int .i64 0] 43)).alloc (by simp) (.cells #[.slice none 0 0, .int .i64 0, .int .i64 0] 43)))
          have HK2 := hideM (HF.out k (by omega))
          have hlt : field N (i + (k + 1)) (n - (k + 1)) < 2 ^ 32 := Nat.lt_of_lt_of_le (HFL.out _ _) (Nat.pow_le_pow_right (by decide) (by omega))
          rw [show i + k + 1 = i + (k + 1) from rfl] at HK2
          generalize field N (i + (k + 1)) (n - (k + 1)) = f1 at *
          have hbt : N / 2 ^ (i + k) % 2 < 2 := Nat.mod_lt _ (by decide)
          generalize N / 2 ^ (i + k) % 2 = bt at *
          have hlt2 : f1 < 4294967296 := hlt
          clear hlt
          go_wp2_with fail
          refine Calls.mono HK.out ?_
          rintro e w1 ⟨rfl, rfl⟩
          go_wp2_with fail
          go_roundw
          case rel => exact ⟨k, by omega, by rw [HK2.out]; go_num, by go_num, trivial⟩
          case measure => simp [intOf]
        | zero =>
          rw [HF1.out]
          have hlt : field N i n < 2 ^ 32 := Nat.lt_of_lt_of_le (HFL.out _ _) (Nat.pow_le_pow_right (by decide) (by omega))
          clear hlt
          go_wp2_with fail
          exact bodyPost_ret (v := .tuple #[.agg #[.slice ao Z cap, .int .i64 ((i : Int) + (n : Int)), .int .i64 0], .int .i64 (field N i n : Nat)]) (by simp [results, Tryd.results42, go_sem]) rfl ⟨rfl, ((Below.refl _ _).alloc (Nat.le_refl _) _).alloc (by simp) _⟩
    · have ht : tk zs (i, 0) n = ((i, 2), 0) := by unfold tk; rw [if_pos rfl, if_neg hb]
      rw [ht]
      have hbi : (8 * (zs.length : Int) < (i : Int) + (n : Int)) := by omega
      clear hr hz ht hb
      generalize hL : zs.length = Z at *
      clear hL
      go_enter Tryd.func42, Tryd.ntmps42
      go_wp2_with fail
      exact bodyPost_ret (v := .tuple #[.agg #[.slice ao Z cap, .int .i64 (i : Nat), .int .i64 2], .int .i64 0]) (by simp [results, Tryd.results42, go_sem]) rfl ⟨rfl, ((Below.refl _ _).alloc (Nat.le_refl _) _).alloc (by simp) _⟩
  · have hb : (cl == 0) = false := by simp [hc]
    have hb2 : (cl != 0) = true := by simp [hc]
    rw [tk_no (show (i, cl).2 ≠ 0 from hc)]
    clear hc hr hz
    generalize hL : zs.length = Z at *
    clear hL
    go_enter Tryd.func42, Tryd.ntmps42
    go_wp2_with fail
    exact bodyPost_ret (v := .tuple #[.agg #[.slice ao Z cap, .int .i64 (i : Nat), .int .i64 cl], .int .i64 0]) (by simp [results, Tryd.results42, go_sem]) rfl ⟨rfl, ((Below.refl _ _).alloc (Nat.le_refl _) _).alloc (by simp) _⟩
end Go.Proofs.YtlffdadmgginmaeDoor
namespace Go.Proofs.YtlffdadmgginmaeDoor
open Go.RowKit
attribute [local go_sem ↓] Go.wp_at_zero Go.wp_at_succ
set_option linter.unusedVariables false

theorem field_high (N i n : Nat) : field N i (n + 1) = field N i n + N / 2 ^ (i + n) % 2 * 2 ^ n := by
  unfold field
  rw [Nat.pow_succ, Nat.mod_mul, Nat.div_div_eq_div_mul, ← Nat.pow_add, Nat.mul_comm (2 ^ n)]
theorem nx3_zero {ls : List Int} {b n : Nat} (h : (nx3 ls b n).1 ≠ 1) : (nx3 ls b n).2.1 = 0 ∧ (nx3 ls b n).2.2 = 0 := by
  have h2 := nx3_is ls b n
  generalize nx3 ls b n = t at *
  obtain ⟨k, s, l⟩ := t
  dsimp only at *
  unfold AnsN at h2
  split at h2
  · rcases h2 with ⟨i, _, _, h3, _⟩ | ⟨i, _, _, _, h3, h4⟩ | ⟨_, _, h3, h4⟩
    · exact absurd h3 h
    · exact ⟨h3, h4⟩
    · exact ⟨h3, h4⟩
  · exact ⟨h2.2.1, h2.2.2⟩
theorem nx3_len {ls : List Int} {b n : Nat} : (nx3 ls b n).2.2 ≤ n := by
  by_cases h : (nx3 ls b n).1 = 1
  · exact (nx3_sym h).2
  · rw [(nx3_zero h).2]; exact Nat.zero_le _
theorem Reads.belowL {w w' : World} {ao : Option Addr} {n : Nat} {F : Nat → Nat × Nat} (h : Reads w ao n F) (hb : Below w.heap.size w w') : Reads w' ao n F := fun h0 => by
  obtain ⟨g, h1, h2⟩ := h h0
  exact ⟨g, h1, h2.grown (grownBy_of_below hb none) (by simp)⟩
theorem sh_ok (f1 bt k : Nat) (hf : f1 < 32768) (hb : bt < 2) (hk : k < 15) : IntKind.u64.wrap ((f1 : Int) + IntKind.u64.wrap ((bt : Int) * 2 ^ k)) = ((f1 + bt * 2 ^ k : Nat) : Int) := by
  have hp : 2 ^ k ≤ 16384 := (Nat.pow_le_pow_right (n := 2) (by decide) (show k ≤ 14 by omega) : 2 ^ k ≤ 2 ^ 14)
  rw [pow_int]
  generalize 2 ^ k = P at *
  rcases (show bt = 0 ∨ bt = 1 from by omega) with rfl | rfl
  · simp only [IntKind.wrap_u64]; omega
  · simp only [IntKind.wrap_u64]; omega
/-- A place in bits, in memory. -/
def L5m (w : World) (p : Nat) (v : Value) (i cl : Int) : Prop := w.cell? ⟨p, 0, none⟩ = some v ∧ w.cell? ⟨p, 1, none⟩ = some (.int .i64 i) ∧ w.cell? ⟨p, 2, none⟩ = some (.int .i64 cl) ∧ ∀ o, w.frozen? ⟨p, o, none⟩ = false
theorem L5m.lt {w : World} {p : Nat} {v : Value} {i cl : Int} (h : L5m w p v i cl) : p < w.heap.size := World.block_lt_of_cell? w _ h.1
theorem L5m.grown {w w' : World} {row : Option Nat} {p : Nat} {v : Value} {i cl : Int} (h : L5m w p v i cl) (hg : w.grownBy w' row) (hne : some p ≠ row) : L5m w' p v i cl := by
  have e := hg.block p h.lt hne
  obtain ⟨h0, h1, h2, h3⟩ := h
  exact ⟨(World.cell?_of_block (w := w) e).trans h0, (World.cell?_of_block (w := w) e).trans h1, (World.cell?_of_block (w := w) e).trans h2, fun o => (World.frozen?_of_block (w := w) e).trans (h3 o)⟩
theorem L5m.below {w w' : World} {p : Nat} {v : Value} {i cl : Int} (h : L5m w p v i cl) (hb : Below w.heap.size w w') : L5m w' p v i cl := h.grown (grownBy_of_below hb none) (by simp)
theorem l5m_new (w : World) (v : Value) (i cl : Int) (t : TypeId) : L5m (w.alloc (.cells #[v, .int .i64 i, .int .i64 cl] t)) w.heap.size v i cl := by
  refine ⟨?_, ?_, ?_, ?_⟩ <;> simp [go_sem]
theorem set_same {w : World} {a : Addr} {u : Value} (v : Value) (h : w.cell? a = some u) : (w.setCell a v).cell? a = some v := World.cell?_setCell_same _ _ _ h
theorem set_far {w : World} {p i j : Nat} {u : Option Value} (v : Value) (hij : i ≠ j) (h : w.cell? ⟨p, j, none⟩ = u) : (w.setCell ⟨p, i, none⟩ v).cell? ⟨p, j, none⟩ = u := by
  rw [World.cell?_setCell_other _ _ _ _ (by first | (simp; done) | (simp; omega))]; exact h
theorem L5m.set1 {w : World} {p : Nat} {v : Value} {i cl : Int} (h : L5m w p v i cl) (x : Int) : L5m (w.setCell ⟨p, 1, none⟩ (.int .i64 x)) p v x cl :=
  ⟨set_far _ (by decide) h.1, set_same _ h.2.1, set_far _ (by decide) h.2.2.1, fun o => by rw [World.frozen?_setCell]; exact h.2.2.2 o⟩
theorem L5m.set2 {w : World} {p : Nat} {v : Value} {i cl : Int} (h : L5m w p v i cl) (x : Int) : L5m (w.setCell ⟨p, 2, none⟩ (.int .i64 x)) p v i x :=
  ⟨set_far _ (by decide) h.1, set_far _ (by decide) h.2.1, set_same _ h.2.2.1, fun o => by rw [World.frozen?_setCell]; exact h.2.2.2 o⟩
/-- All three cells laid. -/
theorem L5m.set {w : World} {p : Nat} {v : Value} {i cl : Int} (h : L5m w p v i cl) (v' : Value) (i' cl' : Int) : L5m (((w.setCell ⟨p, 0, none⟩ v').setCell ⟨p, 1, none⟩ (.int .i64 i')).setCell ⟨p, 2, none⟩ (.int .i64 cl')) p v' i' cl' ∧ w.grownBy (((w.setCell ⟨p, 0, none⟩ v').setCell ⟨p, 1, none⟩ (.int .i64 i')).setCell ⟨p, 2, none⟩ (.int .i64 cl')) (some p) :=
  ⟨⟨set_far _ (by decide) (set_far _ (by decide) (set_same _ h.1)), set_far _ (by decide) (set_same _ (set_far _ (by decide) h.2.1)), set_same _ (set_far _ (by decide) (set_far _ (by decide) h.2.2.1)), fun o => by rw [World.frozen?_setCell, World.frozen?_setCell, World.frozen?_setCell]; exact h.2.2.2 o⟩,
    grownBy_trans (grownBy_trans (grownBy_setCell w ⟨p, 0, none⟩ _) (grownBy_setCell _ ⟨p, 1, none⟩ _)) (grownBy_setCell _ ⟨p, 2, none⟩ _)⟩
set_option maxRecDepth 100000 in
set_option maxHeartbeats 6400000 in
theorem l5Sym_any (ao : Option Addr) (cap : Nat) (zs : List Int) (i : Nat) (cl : Int) (tb : List Int) (co : Option Addr) (nc cc : Nat) (w : World) (hr : Row w ao zs) (hz : Octets zs) (hzl : zs.length ≤ 65536) (hi : i ≤ 8 * zs.length)
    (hcd : cl = 0 → okC tb = true ∧ nc = tb.length ∧ Reads w co tb.length (code tb)) :
    Calls Tryd.prog 47 #[.agg #[.slice ao zs.length cap, .int .i64 (i : Nat), .int .i64 cl], .slice co nc cc] w fun e w' =>
      e = .returned (.tuple #[.agg #[.slice ao zs.length cap, .int .i64 ((sy zs (i, cl) tb).1.1 : Nat), .int .i64 (sy zs (i, cl) tb).1.2], .int .i64 ((sy zs (i, cl) tb).2 : Nat)]) ∧ Below w.heap.size w w' := by
  by_cases hc : cl = 0
  · obtain ⟨hok, rfl, hrd⟩ := hcd hc
    subst hc
    have hlk : lkn zs i ≤ 15 := Nat.min_le_right _ _
    have hlk2 : i + lkn zs i ≤ 8 * zs.length := by have : lkn zs i ≤ 8 * zs.length - i := Nat.min_le_left _ _; omega
    have hlk3 : lkn zs i < 15 → i + lkn zs i = 8 * zs.length := by
      intro h
      unfold lkn at h ⊢
      rcases Nat.le_total (8 * zs.length - i) 15 with h1 | h1
      · rw [show Nat.min (8 * zs.length - i) 15 = 8 * zs.length - i from Nat.min_eq_left h1]; omega
      · rw [show Nat.min (8 * zs.length - i) 15 = 15 from Nat.min_eq_right h1] at h; omega
    have HS : Hid (sy zs (i, 0) tb = ((i + (nx3 tb (field (bnum zs) i (lkn zs i)) (lkn zs i)).2.2, if (nx3 tb (field (bnum zs) i (lkn zs i)) (lkn zs i)).1 = 2 then 2 else if (nx3 tb (field (bnum zs) i (lkn zs i)) (lkn zs i)).1 = 0 then 3 else 0), (nx3 tb (field (bnum zs) i (lkn zs i)) (lkn zs i)).2.1)) := by
      show _ = _
      unfold sy
      rw [if_pos rfl]
    have HR : Hid (∀ k, k < lkn zs i → ∀ W, Below w.heap.size w W → Calls Tryd.prog 72 #[.slice ao zs.length cap, .int .i64 ((i : Int) + (k : Int))] W fun e w' => e = .returned (.int .u64 (bnum zs / 2 ^ (i + k) % 2 : Nat)) ∧ w' = W) := fun k hk W hW => l2Bit_any ao cap zs (i + k) W (hr.below hW) hz (by omega) (by omega)
    have HX : Hid (∀ W b n, Below w.heap.size w W → b < 2 ^ 64 → n ≤ 64 → Calls Tryd.prog 75 #[.slice co tb.length cc, .int .u64 (b : Nat), .int .i64 (n : Nat)] W fun e w' => e = .returned (.agg #[.int .i64 ((nx3 tb b n).1 : Nat), .int .i64 ((nx3 tb b n).2.1 : Nat), .int .i64 ((nx3 tb b n).2.2 : Nat)]) ∧ Below W.heap.size W w') := by
      intro W b n hW hb hn
      refine Calls.mono (l3Next_any tb co cc b n W (Reads.belowL hrd hW) hok hb hn) ?_
      rintro e w' ⟨⟨k, s, l, rfl, hA⟩, hb'⟩
      rw [nx3_of (AnsN.yes hok hn hA)]
      exact ⟨rfl, hb'⟩
    have HFH := hideM (fun n => field_high (bnum zs) i n)
    have HF0 := hideM (field_zero (bnum zs) i)
    have HFL := hideM (fun m => field_lt (bnum zs) i m)
    have HNK := hideM (nx3_kinds tb)
    have HNZ := hideM (fun b n => @nx3_zero tb b n)
    have HNL := hideM (fun b n => @nx3_len tb b n)
    generalize sy zs (i, 0) tb = S at *
    generalize lkn zs i = K at *
    generalize bnum zs = N at *
    clear hcd hrd hok hr hz
    generalize hL : zs.length = Z at *
    clear hL
    go_enter Tryd.func47, Tryd.ntmps47
    go_wp2_with fail
    go_loopw [6, 7] (fun v kk wr => ∃ k : Nat, k ≤ K ∧ v = .int .u64 (field N i k : Nat) ∧ kk = .int .i64 (k : Nat) ∧ wr = (w.alloc (.cells #[.slice ao Z cap, .int .i64 (i : Nat), .int .i64 0] 43)).alloc (.cells #[.slice none 0 0, .int .i64 0, .int .i64 0] 43)) (fun _ kk _ => K - (intOf kk).toNat)
    case atStart => exact ⟨0, Nat.zero_le _, by rw [HF0.out]; rfl, rfl, rfl⟩
    case round =>
      obtain ⟨k, hk, rfl, rfl, rfl⟩ := hrel
      by_cases hlt : k < K
      · have h15 : k < 15 := by omega
        have h8 : (i : Int) + (k : Int) < 8 * (Z : Int) := by omega
        have HK := hideM (HR.out k hlt _ (((Below.refl w.heap.size w).alloc (Nat.le_refl _) (.cells #[.slice ao Z cap, .int .i64 (i : Nat), .int .i64 0] 43)).alloc (by simp) (.cells #[.slice none 0 0, .int .i64 0, .int .i64 0] 43)))
        have HK2 := hideM (HFH.out k)
        have hf : field N i k < 2 ^ 15 := Nat.lt_of_lt_of_le (HFL.out k) (Nat.pow_le_pow_right (by decide) (by omega))
        have hf2 : field N i k < 32768 := hf
        generalize field N i k = f1 at *
        have hbt : N / 2 ^ (i + k) % 2 < 2 := Nat.mod_lt _ (by decide)
        generalize N / 2 ^ (i + k) % 2 = bt at *
        clear hf
        go_wp2_with fail
        refine Calls.mono HK.out ?_
        rintro e w1 ⟨rfl, rfl⟩
        have HSH := hideM (sh_ok f1 bt k hf2 hbt h15)
        go_wp2_with fail
        go_roundw
        case rel => exact ⟨k + 1, by omega, by rw [HSH.out, HK2.out], by go_num, trivial⟩
        case measure => simp [intOf]; omega
      · have e : k = K := by omega
        subst e
        have hstop : ¬ (k < 15 ∧ i + k < 8 * Z) := by
          rintro ⟨a1, a2⟩
          have := hlk3 a1
          omega
        have hf : field N i k < 2 ^ 64 := Nat.lt_of_lt_of_le (HFL.out k) (Nat.pow_le_pow_right (by decide) (by omega))
        have HN := hideM (HX.out ((w.alloc (.cells #[.slice ao Z cap, .int .i64 (i : Nat), .int .i64 0] 43)).alloc (.cells #[.slice none 0 0, .int .i64 0, .int .i64 0] 43)) (field N i k) k (((Below.refl w.heap.size w).alloc (Nat.le_refl _) _).alloc (by simp) _) hf (by omega))
        have hkk := HNK.out (field N i k) k
        have hz1 := HNZ.out (field N i k) k
        have ht3 := HNL.out (field N i k) k
        generalize nx3 tb (field N i k) k = T at *
        obtain ⟨t1, t2, t3⟩ := T
        dsimp only at *
        have B2 : Hid (L5m ((w.alloc (.cells #[.slice ao Z cap, .int .i64 (i : Nat), .int .i64 0] 43)).alloc (.cells #[.slice none 0 0, .int .i64 0, .int .i64 0] 43)) w.heap.size (.slice ao Z cap) (i : Nat) 0) := (l5m_new w (.slice ao Z cap) (i : Nat) 0 43).below ((Below.refl _ _).alloc (Nat.le_refl _) _)
        have R2 : Hid (L5m ((w.alloc (.cells #[.slice ao Z cap, .int .i64 (i : Nat), .int .i64 0] 43)).alloc (.cells #[.slice none 0 0, .int .i64 0, .int .i64 0] 43)) (w.heap.size + 1) (.slice none 0 0) 0 0) := by
          have h := l5m_new (w.alloc (.cells #[.slice ao Z cap, .int .i64 (i : Nat), .int .i64 0] 43)) (.slice none 0 0) 0 0 43
          rw [World.size_alloc] at h
          exact h
        have L2 : Hid (Below w.heap.size w ((w.alloc (.cells #[.slice ao Z cap, .int .i64 (i : Nat), .int .i64 0] 43)).alloc (.cells #[.slice none 0 0, .int .i64 0, .int .i64 0] 43))) := ((Below.refl _ _).alloc (Nat.le_refl _) _).alloc (by simp) _
        clear HX HNK HNZ HNL HFL HFH HF0 HR hf hlt hlk3
        by_cases h15 : k < 15
        · have h15i : ((k : Int) < 15) := by omega
          have h8 : ¬ ((i : Int) + (k : Int) < 8 * (Z : Int)) := by omega
          have h8d : decide ((i : Int) + (k : Int) < 8 * (Z : Int)) = false := decide_eq_false h8
          clear h15 hstop
          go_wp2_with fail
          refine Calls.mono HN.out ?_
          rintro e w3 ⟨rfl, hb3⟩
          have B3 := hideM (B2.out.below hb3)
          have R3 := hideM (R2.out.below hb3)
          have L3 := hideM (L2.out.trans (hb3.mono L2.out.size))
          have b4 : Below w3.heap.size w3 (w3.alloc (.cells #[.int .i64 (t1 : Nat), .int .i64 (t2 : Nat), .int .i64 (t3 : Nat)] 128)) := (Below.refl _ _).alloc (Nat.le_refl _) _
          have B4 := hideM (B3.out.below b4)
          have R4 := hideM (R3.out.below b4)
          have L4 := hideM (L3.out.trans (b4.mono L3.out.size))
          have X4 := hideM (l5m_new w3 (.int .i64 (t1 : Nat)) (t2 : Nat) (t3 : Nat) 128)
          have hq : w.heap.size + 1 < w3.heap.size := R3.out.lt
          clear hb3 b4 HN B2 R2 L2 B3 R3 L3
          go_upto_region 9 with fail
          obtain ⟨q, hqq⟩ : ∃ q, w3.heap.size = q := ⟨_, rfl⟩
          generalize w3.alloc (.cells #[.int .i64 (t1 : Nat), .int .i64 (t2 : Nat), .int .i64 (t3 : Nat)] 128) = W4 at *
          rw [hqq] at X4 hq ⊢
          clear hqq
          rcases hkk with rfl | rfl | rfl
          · obtain ⟨rfl, rfl⟩ := hz1 (by decide)
            clear hz1
            have HT : Hid (S = ((i, 3), 0)) := by
              show _ = _
              rw [HS.out]
              rfl
            obtain ⟨b0, b1, b2, bf⟩ := B4.out
            obtain ⟨x0, x1, x2, xf⟩ := X4.out
            have z1 := B4.out.lt
            have z2 := X4.out.lt
            clear bf xf
            go_upto_region 11 with fail
            clear b0 b1 b2 x0 x1 x2 z1 z2
            have B5 := B4
            have R5 := R4
            have X5 := X4
            have L5 := L4
            clear B4 R4 X4 L4
            generalize W4 = W5 at *
            obtain ⟨b0, b1, b2, bf⟩ := B5.out
            obtain ⟨x0, x1, x2, xf⟩ := X5.out
            have z1 := B5.out.lt
            have z2 := X5.out.lt
            clear bf xf
            have HBD := hideM (l5Bad_any ao Z cap i 0 true W5)
            rw [show bdP (i, 0) true = (i, 3) from rfl] at HBD
            go_wp2_with fail
            refine Calls.mono HBD.out ?_
            rintro e w6 ⟨rfl, hb6⟩
            have B6 := hideM (B5.out.below hb6)
            have R6 := hideM (R5.out.below hb6)
            have X6 := hideM (X5.out.below hb6)
            have L6 := hideM (L5.out.trans (hb6.mono L5.out.size))
            clear hb6 HBD b0 b1 b2 x0 x1 x2 z1 z2
            obtain ⟨b0, b1, b2, bf⟩ := B6.out
            have bf0 := bf 0
            have bf1 := bf 1
            have bf2 := bf 2
            have z1 := B6.out.lt
            clear bf
            have E7 := hideM (B6.out.set (.slice ao Z cap) (i : Nat) 3)
            have R7 := hideM (R6.out.grown E7.out.2 (by simp))
            have X7 := hideM (X6.out.grown E7.out.2 (by simp; omega))
            have L7 := hideM (L6.out.grown E7.out.2 (by have := B6.out.lt; omega) (by intro k e; simp at e; omega))
            have B7 := hideM E7.out.1
            go_upto_region 12 with fail
            clear E7 b0 b1 b2 bf0 bf1 bf2 z1
            generalize ((w6.setCell ⟨w.heap.size, 0, none⟩ (.slice ao Z cap)).setCell ⟨w.heap.size, 1, none⟩ (.int .i64 (i : Nat))).setCell ⟨w.heap.size, 2, none⟩ (.int .i64 3) = W7 at *
            obtain ⟨b0, b1, b2, bf⟩ := B7.out
            have bf1 := bf 1
            obtain ⟨x0, x1, x2, xf⟩ := X7.out
            have z1 := B7.out.lt
            have z2 := X7.out.lt
            clear bf xf
            go_upto_region 13 with fail
            clear b0 b1 b2 bf1 x0 x1 x2 z1 z2
            have V8 := hideM (grownBy_setCell W7 ⟨w.heap.size, 1, none⟩ (.int .i64 ((i : Nat) : Int)))
            have B8 := hideM (B7.out.set1 ((i : Nat) : Int))
            have R8 := hideM (R7.out.grown V8.out (by simp))
            have X8 := hideM (X7.out.grown V8.out (by simp; omega))
            have L8 := hideM (L7.out.grown V8.out (by have := B7.out.lt; omega) (by intro k e; simp at e; omega))
            clear V8
            generalize W7.setCell ⟨w.heap.size, 1, none⟩ (.int .i64 ((i : Nat) : Int)) = W8 at *
            obtain ⟨b0, b1, b2, bf⟩ := B8.out
            obtain ⟨r0, r1, r2, rf⟩ := R8.out
            have rf0 := rf 0
            have rf1 := rf 1
            have rf2 := rf 2
            obtain ⟨x0, x1, x2, xf⟩ := X8.out
            have z1 := B8.out.lt
            have z2 := X8.out.lt
            have z3 := R8.out.lt
            clear bf rf xf
            have E9 := hideM (R8.out.set (.slice ao Z cap) ((i : Nat) : Int) 3)
            have L9 := hideM (L8.out.grown E9.out.2 (by omega) (by intro k e; simp at e; omega))
            go_region
            go_wp2_with fail
            obtain ⟨⟨y0, y1, y2, _⟩, _⟩ := E9.out
            rw [HT.out]
            exact bodyPost_ret (v := .tuple #[.agg #[.slice ao Z cap, .int .i64 ((i : Nat) : Int), .int .i64 3], .int .i64 0]) (by simp [results, Tryd.results47, go_sem, y0, y1, y2]) rfl ⟨rfl, by first | exact L9.out | exact L9.out.drew⟩
          · clear hz1
            have HT : Hid (S = ((i + t3, 0), t2)) := by
              show _ = _
              rw [HS.out]
              rfl
            obtain ⟨b0, b1, b2, bf⟩ := B4.out
            obtain ⟨x0, x1, x2, xf⟩ := X4.out
            have z1 := B4.out.lt
            have z2 := X4.out.lt
            clear bf xf
            go_upto_region 11 with fail
            clear b0 b1 b2 x0 x1 x2 z1 z2
            have B5 := B4
            have R5 := R4
            have X5 := X4
            have L5 := L4
            clear B4 R4 X4 L4
            generalize W4 = W5 at *
            obtain ⟨b0, b1, b2, bf⟩ := B5.out
            obtain ⟨x0, x1, x2, xf⟩ := X5.out
            have z1 := B5.out.lt
            have z2 := X5.out.lt
            clear bf xf
            have HBD := hideM (l5Bad_any ao Z cap i 0 false W5)
            rw [show bdP (i, 0) false = (i, 0) from rfl] at HBD
            go_wp2_with fail
            refine Calls.mono HBD.out ?_
            rintro e w6 ⟨rfl, hb6⟩
            have B6 := hideM (B5.out.below hb6)
            have R6 := hideM (R5.out.below hb6)
            have X6 := hideM (X5.out.below hb6)
            have L6 := hideM (L5.out.trans (hb6.mono L5.out.size))
            clear hb6 HBD b0 b1 b2 x0 x1 x2 z1 z2
            obtain ⟨b0, b1, b2, bf⟩ := B6.out
            have bf0 := bf 0
            have bf1 := bf 1
            have bf2 := bf 2
            have z1 := B6.out.lt
            clear bf
            have E7 := hideM (B6.out.set (.slice ao Z cap) (i : Nat) 0)
            have R7 := hideM (R6.out.grown E7.out.2 (by simp))
            have X7 := hideM (X6.out.grown E7.out.2 (by simp; omega))
            have L7 := hideM (L6.out.grown E7.out.2 (by have := B6.out.lt; omega) (by intro k e; simp at e; omega))
            have B7 := hideM E7.out.1
            go_upto_region 12 with fail
            clear E7 b0 b1 b2 bf0 bf1 bf2 z1
            generalize ((w6.setCell ⟨w.heap.size, 0, none⟩ (.slice ao Z cap)).setCell ⟨w.heap.size, 1, none⟩ (.int .i64 (i : Nat))).setCell ⟨w.heap.size, 2, none⟩ (.int .i64 0) = W7 at *
            obtain ⟨b0, b1, b2, bf⟩ := B7.out
            have bf1 := bf 1
            obtain ⟨x0, x1, x2, xf⟩ := X7.out
            have z1 := B7.out.lt
            have z2 := X7.out.lt
            clear bf xf
            go_upto_region 13 with fail
            clear b0 b1 b2 bf1 x0 x1 x2 z1 z2
            have V8 := hideM (grownBy_setCell W7 ⟨w.heap.size, 1, none⟩ (.int .i64 ((i : Int) + (t3 : Int))))
            have B8 := hideM (B7.out.set1 ((i : Int) + (t3 : Int)))
            have R8 := hideM (R7.out.grown V8.out (by simp))
            have X8 := hideM (X7.out.grown V8.out (by simp; omega))
            have L8 := hideM (L7.out.grown V8.out (by have := B7.out.lt; omega) (by intro k e; simp at e; omega))
            clear V8
            generalize W7.setCell ⟨w.heap.size, 1, none⟩ (.int .i64 ((i : Int) + (t3 : Int))) = W8 at *
            obtain ⟨b0, b1, b2, bf⟩ := B8.out
            obtain ⟨r0, r1, r2, rf⟩ := R8.out
            have rf0 := rf 0
            have rf1 := rf 1
            have rf2 := rf 2
            obtain ⟨x0, x1, x2, xf⟩ := X8.out
            have z1 := B8.out.lt
            have z2 := X8.out.lt
            have z3 := R8.out.lt
            clear bf rf xf
            have E9 := hideM (R8.out.set (.slice ao Z cap) ((i : Int) + (t3 : Int)) 0)
            have L9 := hideM (L8.out.grown E9.out.2 (by omega) (by intro k e; simp at e; omega))
            go_region
            go_wp2_with fail
            obtain ⟨⟨y0, y1, y2, _⟩, _⟩ := E9.out
            rw [HT.out]
            exact bodyPost_ret (v := .tuple #[.agg #[.slice ao Z cap, .int .i64 ((i : Int) + (t3 : Int)), .int .i64 0], .int .i64 (t2 : Nat)]) (by simp [results, Tryd.results47, go_sem, y0, y1, y2]) rfl ⟨by rw [Int.natCast_add], by first | exact L9.out | exact L9.out.drew⟩
          · obtain ⟨rfl, rfl⟩ := hz1 (by decide)
            clear hz1
            have HT : Hid (S = ((i, 2), 0)) := by
              show _ = _
              rw [HS.out]
              rfl
            have B5 := hideM (B4.out.set2 2)
            have V5 := hideM (grownBy_setCell W4 ⟨w.heap.size, 2, none⟩ (.int .i64 2))
            have R5 := hideM (R4.out.grown V5.out (by simp))
            have X5 := hideM (X4.out.grown V5.out (by simp; omega))
            have L5 := hideM (L4.out.grown V5.out (by have := B4.out.lt; omega) (by intro k e; simp at e; omega))
            obtain ⟨b0, b1, b2, bf⟩ := B4.out
            have bf2 := bf 2
            obtain ⟨x0, x1, x2, xf⟩ := X4.out
            have z1 := B4.out.lt
            have z2 := X4.out.lt
            clear bf xf
            go_upto_region 11 with fail
            clear b0 b1 b2 bf2 x0 x1 x2 z1 z2 V5
            generalize W4.setCell ⟨w.heap.size, 2, none⟩ (.int .i64 2) = W5 at *
            obtain ⟨b0, b1, b2, bf⟩ := B5.out
            obtain ⟨x0, x1, x2, xf⟩ := X5.out
            have z1 := B5.out.lt
            have z2 := X5.out.lt
            clear bf xf
            have HBD := hideM (l5Bad_any ao Z cap i 2 false W5)
            rw [show bdP (i, 2) false = (i, 2) from rfl] at HBD
            go_wp2_with fail
            refine Calls.mono HBD.out ?_
            rintro e w6 ⟨rfl, hb6⟩
            have B6 := hideM (B5.out.below hb6)
            have R6 := hideM (R5.out.below hb6)
            have X6 := hideM (X5.out.below hb6)
            have L6 := hideM (L5.out.trans (hb6.mono L5.out.size))
            clear hb6 HBD b0 b1 b2 x0 x1 x2 z1 z2
            obtain ⟨b0, b1, b2, bf⟩ := B6.out
            have bf0 := bf 0
            have bf1 := bf 1
            have bf2 := bf 2
            have z1 := B6.out.lt
            clear bf
            have E7 := hideM (B6.out.set (.slice ao Z cap) (i : Nat) 2)
            have R7 := hideM (R6.out.grown E7.out.2 (by simp))
            have X7 := hideM (X6.out.grown E7.out.2 (by simp; omega))
            have L7 := hideM (L6.out.grown E7.out.2 (by have := B6.out.lt; omega) (by intro k e; simp at e; omega))
            have B7 := hideM E7.out.1
            go_upto_region 12 with fail
            clear E7 b0 b1 b2 bf0 bf1 bf2 z1
            generalize ((w6.setCell ⟨w.heap.size, 0, none⟩ (.slice ao Z cap)).setCell ⟨w.heap.size, 1, none⟩ (.int .i64 (i : Nat))).setCell ⟨w.heap.size, 2, none⟩ (.int .i64 2) = W7 at *
            obtain ⟨b0, b1, b2, bf⟩ := B7.out
            have bf1 := bf 1
            obtain ⟨x0, x1, x2, xf⟩ := X7.out
            have z1 := B7.out.lt
            have z2 := X7.out.lt
            clear bf xf
            go_upto_region 13 with fail
            clear b0 b1 b2 bf1 x0 x1 x2 z1 z2
            have V8 := hideM (grownBy_setCell W7 ⟨w.heap.size, 1, none⟩ (.int .i64 ((i : Nat) : Int)))
            have B8 := hideM (B7.out.set1 ((i : Nat) : Int))
            have R8 := hideM (R7.out.grown V8.out (by simp))
            have X8 := hideM (X7.out.grown V8.out (by simp; omega))
            have L8 := hideM (L7.out.grown V8.out (by have := B7.out.lt; omega) (by intro k e; simp at e; omega))
            clear V8
            generalize W7.setCell ⟨w.heap.size, 1, none⟩ (.int .i64 ((i : Nat) : Int)) = W8 at *
            obtain ⟨b0, b1, b2, bf⟩ := B8.out
            obtain ⟨r0, r1, r2, rf⟩ := R8.out
            have rf0 := rf 0
            have rf1 := rf 1
            have rf2 := rf 2
            obtain ⟨x0, x1, x2, xf⟩ := X8.out
            have z1 := B8.out.lt
            have z2 := X8.out.lt
            have z3 := R8.out.lt
            clear bf rf xf
            have E9 := hideM (R8.out.set (.slice ao Z cap) ((i : Nat) : Int) 2)
            have L9 := hideM (L8.out.grown E9.out.2 (by omega) (by intro k e; simp at e; omega))
            go_region
            go_wp2_with fail
            obtain ⟨⟨y0, y1, y2, _⟩, _⟩ := E9.out
            rw [HT.out]
            exact bodyPost_ret (v := .tuple #[.agg #[.slice ao Z cap, .int .i64 ((i : Nat) : Int), .int .i64 2], .int .i64 0]) (by simp [results, Tryd.results47, go_sem, y0, y1, y2]) rfl ⟨rfl, by first | exact L9.out | exact L9.out.drew⟩
        · have h15i : ¬ ((k : Int) < 15) := by omega
          have h15d : decide ((k : Int) < 15) = false := decide_eq_false h15i
          clear h15 hstop
          go_wp2_with fail
          refine Calls.mono HN.out ?_
          rintro e w3 ⟨rfl, hb3⟩
          have B3 := hideM (B2.out.below hb3)
          have R3 := hideM (R2.out.below hb3)
          have L3 := hideM (L2.out.trans (hb3.mono L2.out.size))
          have b4 : Below w3.heap.size w3 (w3.alloc (.cells #[.int .i64 (t1 : Nat), .int .i64 (t2 : Nat), .int .i64 (t3 : Nat)] 128)) := (Below.refl _ _).alloc (Nat.le_refl _) _
          have B4 := hideM (B3.out.below b4)
          have R4 := hideM (R3.out.below b4)
          have L4 := hideM (L3.out.trans (b4.mono L3.out.size))
          have X4 := hideM (l5m_new w3 (.int .i64 (t1 : Nat)) (t2 : Nat) (t3 : Nat) 128)
          have hq : w.heap.size + 1 < w3.heap.size := R3.out.lt
          clear hb3 b4 HN B2 R2 L2 B3 R3 L3
          go_upto_region 9 with fail
          obtain ⟨q, hqq⟩ : ∃ q, w3.heap.size = q := ⟨_, rfl⟩
          generalize w3.alloc (.cells #[.int .i64 (t1 : Nat), .int .i64 (t2 : Nat), .int .i64 (t3 : Nat)] 128) = W4 at *
          rw [hqq] at X4 hq ⊢
          clear hqq
          rcases hkk with rfl | rfl | rfl
          · obtain ⟨rfl, rfl⟩ := hz1 (by decide)
            clear hz1
            have HT : Hid (S = ((i, 3), 0)) := by
              show _ = _
              rw [HS.out]
              rfl
            obtain ⟨b0, b1, b2, bf⟩ := B4.out
            obtain ⟨x0, x1, x2, xf⟩ := X4.out
            have z1 := B4.out.lt
            have z2 := X4.out.lt
            clear bf xf
            go_upto_region 11 with fail
            clear b0 b1 b2 x0 x1 x2 z1 z2
            have B5 := B4
            have R5 := R4
            have X5 := X4
            have L5 := L4
            clear B4 R4 X4 L4
            generalize W4 = W5 at *
            obtain ⟨b0, b1, b2, bf⟩ := B5.out
            obtain ⟨x0, x1, x2, xf⟩ := X5.out
            have z1 := B5.out.lt
            have z2 := X5.out.lt
            clear bf xf
            have HBD := hideM (l5Bad_any ao Z cap i 0 true W5)
            rw [show bdP (i, 0) true = (i, 3) from rfl] at HBD
            go_wp2_with fail
            refine Calls.mono HBD.out ?_
            rintro e w6 ⟨rfl, hb6⟩
            have B6 := hideM (B5.out.below hb6)
            have R6 := hideM (R5.out.below hb6)
            have X6 := hideM (X5.out.below hb6)
            have L6 := hideM (L5.out.trans (hb6.mono L5.out.size))
            clear hb6 HBD b0 b1 b2 x0 x1 x2 z1 z2
            obtain ⟨b0, b1, b2, bf⟩ := B6.out
            have bf0 := bf 0
            have bf1 := bf 1
            have bf2 := bf 2
            have z1 := B6.out.lt
            clear bf
            have E7 := hideM (B6.out.set (.slice ao Z cap) (i : Nat) 3)
            have R7 := hideM (R6.out.grown E7.out.2 (by simp))
            have X7 := hideM (X6.out.grown E7.out.2 (by simp; omega))
            have L7 := hideM (L6.out.grown E7.out.2 (by have := B6.out.lt; omega) (by intro k e; simp at e; omega))
            have B7 := hideM E7.out.1
            go_upto_region 12 with fail
            clear E7 b0 b1 b2 bf0 bf1 bf2 z1
            generalize ((w6.setCell ⟨w.heap.size, 0, none⟩ (.slice ao Z cap)).setCell ⟨w.heap.size, 1, none⟩ (.int .i64 (i : Nat))).setCell ⟨w.heap.size, 2, none⟩ (.int .i64 3) = W7 at *
            obtain ⟨b0, b1, b2, bf⟩ := B7.out
            have bf1 := bf 1
            obtain ⟨x0, x1, x2, xf⟩ := X7.out
            have z1 := B7.out.lt
            have z2 := X7.out.lt
            clear bf xf
            go_upto_region 13 with fail
            clear b0 b1 b2 bf1 x0 x1 x2 z1 z2
            have V8 := hideM (grownBy_setCell W7 ⟨w.heap.size, 1, none⟩ (.int .i64 ((i : Nat) : Int)))
            have B8 := hideM (B7.out.set1 ((i : Nat) : Int))
            have R8 := hideM (R7.out.grown V8.out (by simp))
            have X8 := hideM (X7.out.grown V8.out (by simp; omega))
            have L8 := hideM (L7.out.grown V8.out (by have := B7.out.lt; omega) (by intro k e; simp at e; omega))
            clear V8
            generalize W7.setCell ⟨w.heap.size, 1, none⟩ (.int .i64 ((i : Nat) : Int)) = W8 at *
            obtain ⟨b0, b1, b2, bf⟩ := B8.out
            obtain ⟨r0, r1, r2, rf⟩ := R8.out
            have rf0 := rf 0
            have rf1 := rf 1
            have rf2 := rf 2
            obtain ⟨x0, x1, x2, xf⟩ := X8.out
            have z1 := B8.out.lt
            have z2 := X8.out.lt
            have z3 := R8.out.lt
            clear bf rf xf
            have E9 := hideM (R8.out.set (.slice ao Z cap) ((i : Nat) : Int) 3)
            have L9 := hideM (L8.out.grown E9.out.2 (by omega) (by intro k e; simp at e; omega))
            go_region
            go_wp2_with fail
            obtain ⟨⟨y0, y1, y2, _⟩, _⟩ := E9.out
            rw [HT.out]
            exact bodyPost_ret (v := .tuple #[.agg #[.slice ao Z cap, .int .i64 ((i : Nat) : Int), .int .i64 3], .int .i64 0]) (by simp [results, Tryd.results47, go_sem, y0, y1, y2]) rfl ⟨rfl, by first | exact L9.out | exact L9.out.drew⟩
          · clear hz1
            have HT : Hid (S = ((i + t3, 0), t2)) := by
              show _ = _
              rw [HS.out]
              rfl
            obtain ⟨b0, b1, b2, bf⟩ := B4.out
            obtain ⟨x0, x1, x2, xf⟩ := X4.out
            have z1 := B4.out.lt
            have z2 := X4.out.lt
            clear bf xf
            go_upto_region 11 with fail
            clear b0 b1 b2 x0 x1 x2 z1 z2
            have B5 := B4
            have R5 := R4
            have X5 := X4
            have L5 := L4
            clear B4 R4 X4 L4
            generalize W4 = W5 at *
            obtain ⟨b0, b1, b2, bf⟩ := B5.out
            obtain ⟨x0, x1, x2, xf⟩ := X5.out
            have z1 := B5.out.lt
            have z2 := X5.out.lt
            clear bf xf
            have HBD := hideM (l5Bad_any ao Z cap i 0 false W5)
            rw [show bdP (i, 0) false = (i, 0) from rfl] at HBD
            go_wp2_with fail
            refine Calls.mono HBD.out ?_
            rintro e w6 ⟨rfl, hb6⟩
            have B6 := hideM (B5.out.below hb6)
            have R6 := hideM (R5.out.below hb6)
            have X6 := hideM (X5.out.below hb6)
            have L6 := hideM (L5.out.trans (hb6.mono L5.out.size))
            clear hb6 HBD b0 b1 b2 x0 x1 x2 z1 z2
            obtain ⟨b0, b1, b2, bf⟩ := B6.out
            have bf0 := bf 0
            have bf1 := bf 1
            have bf2 := bf 2
            have z1 := B6.out.lt
            clear bf
            have E7 := hideM (B6.out.set (.slice ao Z cap) (i : Nat) 0)
            have R7 := hideM (R6.out.grown E7.out.2 (by simp))
            have X7 := hideM (X6.out.grown E7.out.2 (by simp; omega))
            have L7 := hideM (L6.out.grown E7.out.2 (by have := B6.out.lt; omega) (by intro k e; simp at e; omega))
            have B7 := hideM E7.out.1
            go_upto_region 12 with fail
            clear E7 b0 b1 b2 bf0 bf1 bf2 z1
            generalize ((w6.setCell ⟨w.heap.size, 0, none⟩ (.slice ao Z cap)).setCell ⟨w.heap.size, 1, none⟩ (.int .i64 (i : Nat))).setCell ⟨w.heap.size, 2, none⟩ (.int .i64 0) = W7 at *
            obtain ⟨b0, b1, b2, bf⟩ := B7.out
            have bf1 := bf 1
            obtain ⟨x0, x1, x2, xf⟩ := X7.out
            have z1 := B7.out.lt
            have z2 := X7.out.lt
            clear bf xf
            go_upto_region 13 with fail
            clear b0 b1 b2 bf1 x0 x1 x2 z1 z2
            have V8 := hideM (grownBy_setCell W7 ⟨w.heap.size, 1, none⟩ (.int .i64 ((i : Int) + (t3 : Int))))
            have B8 := hideM (B7.out.set1 ((i : Int) + (t3 : Int)))
            have R8 := hideM (R7.out.grown V8.out (by simp))
            have X8 := hideM (X7.out.grown V8.out (by simp; omega))
            have L8 := hideM (L7.out.grown V8.out (by have := B7.out.lt; omega) (by intro k e; simp at e; omega))
            clear V8
            generalize W7.setCell ⟨w.heap.size, 1, none⟩ (.int .i64 ((i : Int) + (t3 : Int))) = W8 at *
            obtain ⟨b0, b1, b2, bf⟩ := B8.out
            obtain ⟨r0, r1, r2, rf⟩ := R8.out
            have rf0 := rf 0
            have rf1 := rf 1
            have rf2 := rf 2
            obtain ⟨x0, x1, x2, xf⟩ := X8.out
            have z1 := B8.out.lt
            have z2 := X8.out.lt
            have z3 := R8.out.lt
            clear bf rf xf
            have E9 := hideM (R8.out.set (.slice ao Z cap) ((i : Int) + (t3 : Int)) 0)
            have L9 := hideM (L8.out.grown E9.out.2 (by omega) (by intro k e; simp at e; omega))
            go_region
            go_wp2_with fail
            obtain ⟨⟨y0, y1, y2, _⟩, _⟩ := E9.out
            rw [HT.out]
            exact bodyPost_ret (v := .tuple #[.agg #[.slice ao Z cap, .int .i64 ((i : Int) + (t3 : Int)), .int .i64 0], .int .i64 (t2 : Nat)]) (by simp [results, Tryd.results47, go_sem, y0, y1, y2]) rfl ⟨by rw [Int.natCast_add], by first | exact L9.out | exact L9.out.drew⟩
          · obtain ⟨rfl, rfl⟩ := hz1 (by decide)
            clear hz1
            have HT : Hid (S = ((i, 2), 0)) := by
              show _ = _
              rw [HS.out]
              rfl
            have B5 := hideM (B4.out.set2 2)
            have V5 := hideM (grownBy_setCell W4 ⟨w.heap.size, 2, none⟩ (.int .i64 2))
            have R5 := hideM (R4.out.grown V5.out (by simp))
            have X5 := hideM (X4.out.grown V5.out (by simp; omega))
            have L5 := hideM (L4.out.grown V5.out (by have := B4.out.lt; omega) (by intro k e; simp at e; omega))
            obtain ⟨b0, b1, b2, bf⟩ := B4.out
            have bf2 := bf 2
            obtain ⟨x0, x1, x2, xf⟩ := X4.out
            have z1 := B4.out.lt
            have z2 := X4.out.lt
            clear bf xf
            go_upto_region 11 with fail
            clear b0 b1 b2 bf2 x0 x1 x2 z1 z2 V5
            generalize W4.setCell ⟨w.heap.size, 2, none⟩ (.int .i64 2) = W5 at *
            obtain ⟨b0, b1, b2, bf⟩ := B5.out
            obtain ⟨x0, x1, x2, xf⟩ := X5.out
            have z1 := B5.out.lt
            have z2 := X5.out.lt
            clear bf xf
            have HBD := hideM (l5Bad_any ao Z cap i 2 false W5)
            rw [show bdP (i, 2) false = (i, 2) from rfl] at HBD
            go_wp2_with fail
            refine Calls.mono HBD.out ?_
            rintro e w6 ⟨rfl, hb6⟩
            have B6 := hideM (B5.out.below hb6)
            have R6 := hideM (R5.out.below hb6)
            have X6 := hideM (X5.out.below hb6)
            have L6 := hideM (L5.out.trans (hb6.mono L5.out.size))
            clear hb6 HBD b0 b1 b2 x0 x1 x2 z1 z2
            obtain ⟨b0, b1, b2, bf⟩ := B6.out
            have bf0 := bf 0
            have bf1 := bf 1
            have bf2 := bf 2
            have z1 := B6.out.lt
            clear bf
            have E7 := hideM (B6.out.set (.slice ao Z cap) (i : Nat) 2)
            have R7 := hideM (R6.out.grown E7.out.2 (by simp))
            have X7 := hideM (X6.out.grown E7.out.2 (by simp; omega))
            have L7 := hideM (L6.out.grown E7.out.2 (by have := B6.out.lt; omega) (by intro k e; simp at e; omega))
            have B7 := hideM E7.out.1
            go_upto_region 12 with fail
            clear E7 b0 b1 b2 bf0 bf1 bf2 z1
            generalize ((w6.setCell ⟨w.heap.size, 0, none⟩ (.slice ao Z cap)).setCell ⟨w.heap.size, 1, none⟩ (.int .i64 (i : Nat))).setCell ⟨w.heap.size, 2, none⟩ (.int .i64 2) = W7 at *
            obtain ⟨b0, b1, b2, bf⟩ := B7.out
            have bf1 := bf 1
            obtain ⟨x0, x1, x2, xf⟩ := X7.out
            have z1 := B7.out.lt
            have z2 := X7.out.lt
            clear bf xf
            go_upto_region 13 with fail
            clear b0 b1 b2 bf1 x0 x1 x2 z1 z2
            have V8 := hideM (grownBy_setCell W7 ⟨w.heap.size, 1, none⟩ (.int .i64 ((i : Nat) : Int)))
            have B8 := hideM (B7.out.set1 ((i : Nat) : Int))
            have R8 := hideM (R7.out.grown V8.out (by simp))
            have X8 := hideM (X7.out.grown V8.out (by simp; omega))
            have L8 := hideM (L7.out.grown V8.out (by have := B7.out.lt; omega) (by intro k e; simp at e; omega))
            clear V8
            generalize W7.setCell ⟨w.heap.size, 1, none⟩ (.int .i64 ((i : Nat) : Int)) = W8 at *
            obtain ⟨b0, b1, b2, bf⟩ := B8.out
            obtain ⟨r0, r1, r2, rf⟩ := R8.out
            have rf0 := rf 0
            have rf1 := rf 1
            have rf2 := rf 2
            obtain ⟨x0, x1, x2, xf⟩ := X8.out
            have z1 := B8.out.lt
            have z2 := X8.out.lt
            have z3 := R8.out.lt
            clear bf rf xf
            have E9 := hideM (R8.out.set (.slice ao Z cap) ((i : Nat) : Int) 2)
            have L9 := hideM (L8.out.grown E9.out.2 (by omega) (by intro k e; simp at e; omega))
            go_region
            go_wp2_with fail
            obtain ⟨⟨y0, y1, y2, _⟩, _⟩ := E9.out
            rw [HT.out]
            exact bodyPost_ret (v := .tuple #[.agg #[.slice ao Z cap, .int .i64 ((i : Nat) : Int), .int .i64 2], .int .i64 0]) (by simp [results, Tryd.results47, go_sem, y0, y1, y2]) rfl ⟨rfl, by first | exact L9.out | exact L9.out.drew⟩
  · have hb2 : (cl != 0) = true := by simp [hc]
    have hs : sy zs (i, cl) tb = ((i, cl), 0) := by unfold sy; rw [if_neg hc]
    rw [hs]
    clear hc hr hz hcd hs
    generalize hL : zs.length = Z at *
    clear hL
    go_enter Tryd.func47, Tryd.ntmps47
    go_wp2_with fail
    exact bodyPost_ret (v := .tuple #[.agg #[.slice ao Z cap, .int .i64 (i : Nat), .int .i64 cl], .int .i64 0]) (by simp [results, Tryd.results47, go_sem]) rfl ⟨rfl, ((Below.refl _ _).alloc (Nat.le_refl _) _).alloc (by simp) _⟩
end Go.Proofs.YtlffdadmgginmaeDoor
namespace Go.Proofs.YtlffdadmgginmaeDoor
open Go.RowKit
attribute [local go_sem ↓] Go.wp_at_zero Go.wp_at_succ
set_option linter.unusedVariables false

section
variable {P : Program} (w : World)
/-- append of elements that lie anywhere onto a row of the call's own; where the row lies then. -/
theorem wpList_append_cells2 {ops : Array Oper} {rest : List Oper} {o : Oper} {a : Act} {Q : Exit → Act → World → Prop} (hgd : o.guard = none) (s x : Operand) (t : TypeId)
    (ho : o.op = .call { callee := .builtin .append, args := #[s, x], argTypes := #[t, t] })
    (base : Nat) (e : TypeId) (i : TypeInfo) (z : Value) (size bytes : Nat) (ht : P.underlying t = some (.slice e)) (hi : P.info? e = some i) (hz : i.zero = some z)
    (hsize : i.size = size) (hby : i.bytes = bytes) (hzs : z.cells.size = size) (hsz : 0 < size)
    (v : Value) (n : Nat) (xs : List Value) (hs : a.eval s = v) (hown : w.ownsRow base e size v n xs) (ad : Addr) (m c : Nat) (news : List Value) (hx : a.eval x = .slice (some ad) m c)
    (hl : news.length = m * size) (hnews : ∀ j u, news[j]? = some u → w.cell? (ad.add j) = some u) (h1 : ∀ u ∈ news, u.oneCell' = true)
    (h63 : n + m ≤ maxLen) (hbytes : (n + m) * bytes ≤ 140737488355328) (hbase : base ≤ w.heap.size)
    (h : ∀ v' w', w'.ownsRow base e size v' (n + m) (xs ++ news) → w.grownBy w' v.ownBlock → (v'.ownBlock = v.ownBlock ∨ v'.ownBlock = some w.heap.size) → wpList P ops Q rest (a.put o.dst v') w') : wpList P ops Q (o :: rest) a w := by
  refine wpList_plain hgd fun K hK => ?_
  obtain ⟨v', w', hr, h2, h3, _, h5⟩ := run_append_own_at (P := P) w base t o.type e i z size bytes ht hi hz hsize hby hzs hsz v n xs hown ad m c news hl hnews h1 h63 hbytes hbase
  unfold Oper.wp execOp
  simp only [ho, resolve, invoke, builtin, Sem.run_bind, Sem.run_pure, Result.andThen_ok, List.map_toArray, List.map_cons, List.map_nil, hs, hx, hr]
  exact hK _ _ (h v' w' h2 h3 h5)
end
theorem grownBy_row {a b c : World} {r r' : Option Nat} (h : a.grownBy b r) (k : b.grownBy c r') (hr : ∀ g, r' = some g → r = some g ∨ a.heap.size ≤ g) : a.grownBy c r := by
  refine ⟨k.os.trans h.os, k.tape.trans h.tape, k.output.trans h.output, Nat.le_trans h.size k.size, fun i hi hne => ?_⟩
  rw [k.block i (Nat.lt_of_lt_of_le hi h.size) ?_, h.block i hi hne]
  intro e
  rcases hr i e.symm with h1 | h1
  · exact hne h1.symm
  · omega
theorem orR {a b c : Prop} (h : a ∨ b) (f : b → c) : a ∨ c := by
  rcases h with h | h
  · exact .inl h
  · exact .inr (f h)
theorem OwnsI.lies {B : Nat} {w : World} {ao : Option Addr} {cap : Nat} {zs : List Int} (h : OwnsI B w ao cap zs) : ∀ g, blk ao = some g → g < w.heap.size := by
  intro g e
  rcases h.2 with ⟨h1, _⟩ | ⟨g', cap', cur, h1, h2, h3, _⟩
  · simp only [Value.slice.injEq] at h1
    rw [h1.1] at e
    cases e
  · simp only [Value.slice.injEq] at h1
    rw [h1.1] at e
    simp [blk] at e
    subst e
    exact (Array.getElem?_eq_some_iff.1 h3).1
set_option maxRecDepth 100000 in
theorem l5Order_any (w : World) : Calls Tryd.prog 44 #[] w fun e w' => ∃ g, e = .returned (.slice (some ⟨g, 0, none⟩) 19 19) ∧ (∀ k, k < 19 → w'.cell? ⟨g, k, none⟩ = some (.int .i64 (ord19 k : Nat))) ∧ g = w.heap.size ∧ Below w.heap.size w w' := by
  go_enter Tryd.func44, Tryd.ntmps44
  go_wp2_with fail
  go_ret
  refine ⟨_, rfl, ?_, rfl, (Below.refl _ _).alloc (Nat.le_refl _) _⟩
  intro k hk
  have h3 : k = 0 ∨ k = 1 ∨ k = 2 ∨ k = 3 ∨ k = 4 ∨ k = 5 ∨ k = 6 ∨ k = 7 ∨ k = 8 ∨ k = 9 ∨ k = 10 ∨ k = 11 ∨ k = 12 ∨ k = 13 ∨ k = 14 ∨ k = 15 ∨ k = 16 ∨ k = 17 ∨ k = 18 := by omega
  rcases h3 with rfl | rfl | rfl | rfl | rfl | rfl | rfl | rfl | rfl | rfl | rfl | rfl | rfl | rfl | rfl | rfl | rfl | rfl | rfl <;> simp [go_sem, ord19]
theorem l5IsKind_any (ao : Option Addr) (cap : Nat) (zs : List Int) (a b c : Int) (w : World) (hr : Row64 w ao zs) (hl : zs.length ≤ 1048576) :
    Calls Tryd.prog 49 #[.slice ao zs.length cap, .int .i64 a, .int .i64 b, .int .i64 c] w fun e w' => e = .returned (.bool (decide (hk zs = a ∨ hk zs = b ∨ hk zs = c))) ∧ Below w.heap.size w w' := by
  have HK := hideM (skind_any ao cap zs w hr hl)
  obtain ⟨r, hrr⟩ : ∃ r : Bool, decide (hk zs = a ∨ hk zs = b ∨ hk zs = c) = r := ⟨_, rfl⟩
  rw [hrr]
  have HR := hideM hrr
  generalize hk zs = k at *
  clear hr hrr
  by_cases h1 : k = a
  · have b1 : (k == a) = true := by simp [h1]
    have HX : Hid (true = r) := by show _ = _; rw [← HR.out]; simp [h1]
    clear h1 HR
    go_enter Tryd.func49, Tryd.ntmps49
    go_wp2_with fail
    refine Calls.mono HK.out ?_
    rintro e w1 ⟨rfl, q, rfl⟩
    go_wp2_with fail
    go_ret
    exact ⟨retb HX.out, below_drewN' _ _ _⟩
  · have b1 : (k == a) = false := by simp [h1]
    by_cases h2 : k = b
    · have b2 : (k == b) = true := by simp [h2]
      have HX : Hid (true = r) := by show _ = _; rw [← HR.out]; simp [h2]
      clear h1 h2 HR
      go_enter Tryd.func49, Tryd.ntmps49
      go_wp2_with fail
      refine Calls.mono HK.out ?_
      rintro e w1 ⟨rfl, q, rfl⟩
      go_wp2_with fail
      go_ret
      exact ⟨retb HX.out, below_drewN' _ _ _⟩
    · have b2 : (k == b) = false := by simp [h2]
      have HX : Hid ((k == c) = r) := by show _ = _; rw [← HR.out]; by_cases h3 : k = c <;> simp [h1, h2, h3]
      clear h1 h2 HR
      generalize hB3 : (k == c) = b3 at *
      go_enter Tryd.func49, Tryd.ntmps49
      go_wp2_with fail
      refine Calls.mono HK.out ?_
      rintro e w1 ⟨rfl, q, rfl⟩
      go_wp2_with fail
      go_ret
      exact ⟨retb (by rw [← HX.out]), below_drewN' _ _ _⟩
/-- What l5Repeat answers. -/
def RepPost (zs : List Int) (ao : Option Addr) (cap : Nat) (aa : Option Addr) (B : Nat) (t : RR × List Int) (e : Ending) (w w' : World) : Prop :=
  ∃ ao' ca', e = .returned (.tuple #[.agg #[.slice ao zs.length cap, .int .i64 (t.1.1 : Nat), .int .i64 t.1.2], .slice ao' t.2.length ca']) ∧ OwnsI B w' ao' ca' t.2 ∧ w.grownBy w' (blk aa) ∧ ∀ g, blk ao' = some g → blk aa = some g ∨ w.heap.size ≤ g
set_option maxRecDepth 100000 in
set_option maxHeartbeats 12800000 in
/-- From the loop on, for one number of rounds. -/
theorem l5Repeat_any (ao : Option Addr) (cap : Nat) (zs : List Int) (i : Nat) (aa : Option Addr) (ca : Nat) (all : List Int) (x B : Nat) (w : World) (hr : Row w ao zs) (hz : Octets zs) (hzl : zs.length ≤ 65536) (hi : i ≤ 8 * zs.length) (ho : OwnsI B w aa ca all) (hB : B ≤ w.heap.size) (hx : x < 19) (hal : all.length ≤ 1000) :
    Calls Tryd.prog 48 #[.agg #[.slice ao zs.length cap, .int .i64 (i : Nat), .int .i64 0], .slice aa all.length ca, .int .i64 (x : Nat)] w fun e w' => RepPost zs ao cap aa B (rpt zs (i, 0) all x) e w w' := by
  obtain ⟨i0, hi0, hz0, hz1, hz2⟩ := info_parts Tryd.info_i64d
  have HTK : Hid (∀ W n cl, Below w.heap.size w W → n ≤ 32 → Calls Tryd.prog 42 #[.agg #[.slice ao zs.length cap, .int .i64 (i : Nat), .int .i64 cl], .int .i64 (n : Nat)] W fun e w' => e = .returned (.tuple #[.agg #[.slice ao zs.length cap, .int .i64 ((tk zs (i, cl) n).1.1 : Nat), .int .i64 (tk zs (i, cl) n).1.2], .int .i64 ((tk zs (i, cl) n).2 : Nat)]) ∧ Below W.heap.size W w') := fun W n cl hW hn => l5Take_any ao cap zs i n cl W (hr.below hW) hz hzl hi hn
  have HZ : Hid (∀ n cl, n ≤ 7 → (tk zs (i, cl) n).2 ≤ 127) := by
    intro n cl hn
    unfold tk
    dsimp only
    split
    · split
      · have := field_small (bnum zs) i n hn
        dsimp only
        omega
      · exact Nat.zero_le _
    · exact Nat.zero_le _
  have HO := hideM ho
  have HLIE := hideM ho.lies
  clear hr hz ho
  obtain ⟨t, ht⟩ : ∃ t, rpt zs (i, 0) all x = t := ⟨_, rfl⟩
  rw [ht]
  unfold rpt at ht
  unfold RepPost
  generalize hZ : zs.length = Z at *
  have HZL := hideM hZ
  clear hZ
  have B1 : Hid (L5m ((w.alloc (.cells #[.slice ao Z cap, .int .i64 (i : Nat), .int .i64 0] 43)).alloc (.cells #[.slice none 0 0, .int .i64 0, .int .i64 0] 43)) w.heap.size (.slice ao Z cap) (i : Nat) 0) := (l5m_new w (.slice ao Z cap) (i : Nat) 0 43).below ((Below.refl _ _).alloc (Nat.le_refl _) _)
  have R1 : Hid (L5m ((w.alloc (.cells #[.slice ao Z cap, .int .i64 (i : Nat), .int .i64 0] 43)).alloc (.cells #[.slice none 0 0, .int .i64 0, .int .i64 0] 43)) (w.heap.size + 1) (.slice none 0 0) 0 0) := by
    have h := l5m_new (w.alloc (.cells #[.slice ao Z cap, .int .i64 (i : Nat), .int .i64 0] 43)) (.slice none 0 0) 0 0 43
    rw [World.size_alloc] at h
    exact h
  have L1 : Hid (Below w.heap.size w ((w.alloc (.cells #[.slice ao Z cap, .int .i64 (i : Nat), .int .i64 0] 43)).alloc (.cells #[.slice none 0 0, .int .i64 0, .int .i64 0] 43))) := ((Below.refl _ _).alloc (Nat.le_refl _) _).alloc (by simp) _
  go_enter Tryd.func48, Tryd.ntmps48
  by_cases x16 : x = 16
  · have e16 : ((x : Int) == 16) = true := by simp; omega
    have e17 : ((x : Int) == 17) = false := by simp; omega
    have e18 : ((x : Int) == 18) = false := by simp; omega
    rw [if_pos x16] at ht
    clear x16 hx
    by_cases h0 : all.length = 0
    · have hb0 : ((all.length : Int) == 0) = true := by simp [h0]
      rw [show decide (all.length = 0) = true from decide_eq_true h0, show bdP (i, 0) true = (i, 3) from rfl, tk_no (show (3 : Int) ≠ 0 by decide)] at ht
      dsimp only at ht
      have HL0 := hideM h0
      clear h0
      go_wp2_with fail
      refine Calls.mono (l5Bad_any ao Z cap i 0 true _) ?_
      rintro e w1 ⟨rfl, hb1⟩
      rw [show bdP (i, 0) true = (i, 3) from rfl]
      dsimp only
      have B0 := hideM (B1.out.below hb1)
      have R0 := hideM (R1.out.below hb1)
      have L0 := hideM (L1.out.trans (hb1.mono L1.out.size))
      clear hb1 B1 R1 L1
      have E0 := hideM (B0.out.set (.slice ao Z cap) (i : Nat) 3)
      have B1 := hideM E0.out.1
      have R1 := hideM (R0.out.grown E0.out.2 (by simp))
      have L1 := hideM (L0.out.grown E0.out.2 (by have := B0.out.lt; omega) (by intro k e; simp at e; omega))
      obtain ⟨b0, b1, b2, bf⟩ := B0.out
      have bf0 := bf 0
      have bf1 := bf 1
      have bf2 := bf 2
      have z1 := B0.out.lt
      clear bf
      go_upto_region 5 with fail
      clear b0 b1 b2 bf0 bf1 bf2 z1 E0 B0 R0 L0
      generalize ((w1.setCell ⟨w.heap.size, 0, none⟩ (.slice ao Z cap)).setCell ⟨w.heap.size, 1, none⟩ (.int .i64 (i : Nat))).setCell ⟨w.heap.size, 2, none⟩ (.int .i64 3) = W1 at *
      obtain ⟨b0, b1, b2, bf⟩ := B1.out
      have z1 := B1.out.lt
      clear bf
      go_wp2_with fail
      refine Calls.mono (HTK.out _ 2 3 L1.out (by decide)) ?_
      rintro e w2 ⟨rfl, hb2⟩
      rw [tk_no (show (i, (3 : Int)).2 ≠ 0 by show (3 : Int) ≠ 0; decide)]
      dsimp only
      have B2 := hideM (B1.out.below hb2)
      have R2 := hideM (R1.out.below hb2)
      have L2 := hideM (L1.out.trans (hb2.mono L1.out.size))
      clear hb2 B1 R1 L1 b0 b1 b2 z1
      have E3 := hideM (B2.out.set (.slice ao Z cap) (i : Nat) 3)
      have BW := hideM E3.out.1
      have RW := hideM (R2.out.grown E3.out.2 (by simp))
      have LW := hideM (L2.out.grown E3.out.2 (by have := B2.out.lt; omega) (by intro k e; simp at e; omega))
      obtain ⟨b0, b1, b2, bf⟩ := B2.out
      have bf0 := bf 0
      have bf1 := bf 1
      have bf2 := bf 2
      have z1 := B2.out.lt
      clear bf
      go_upto_region 18 with fail
      clear b0 b1 b2 bf0 bf1 bf2 z1 E3 B2 R2 L2
      generalize ((w2.setCell ⟨w.heap.size, 0, none⟩ (.slice ao Z cap)).setCell ⟨w.heap.size, 1, none⟩ (.int .i64 (i : Nat))).setCell ⟨w.heap.size, 2, none⟩ (.int .i64 3) = W at *
      have HTT : Hid (t = ((i, 3), all)) := by
        show _ = _
        first | exact ht.symm | (rw [← ht]; rfl)
      clear ht
      have OX := hideM (HO.out.below LW.out)
      have GX := hideM (grownBy_of_below LW.out (blk aa))
      have KX : Hid (∀ g, blk aa = some g → blk aa = some g ∨ w.heap.size + 2 ≤ g) := fun g e => .inl e
      have BX := BW
      have RX := RW
      clear BW RW LW
      go_loopw [1, 10] (fun v kk wr => v = .slice aa all.length ca ∧ kk = .int .i64 0 ∧ wr = W) (fun _ _ _ => 0)
      case atStart => exact ⟨rfl, rfl, rfl⟩
      case round =>
        obtain ⟨rfl, rfl, rfl⟩ := hrel
        obtain ⟨r0, r1, r2, rf⟩ := RX.out
        have rf0 := rf 0
        have rf1 := rf 1
        have rf2 := rf 2
        obtain ⟨b0, b1, b2, bf⟩ := BX.out
        have z1 := BX.out.lt
        have z3 := RX.out.lt
        clear bf rf
        have E9 := hideM (RX.out.set (.slice ao Z cap) (i : Nat) 3)
        have G9 := hideM (grownBy_row GX.out E9.out.2 (fun g e => by simp at e; right; omega))
        have O9 := hideM (OX.out.grown E9.out.2 (fun g e he => by simp at e; subst e; exact (KX.out _ he).elim (fun h => absurd (HLIE.out _ h) (by omega)) (fun h => absurd h (by omega))))
        go_wp2_with fail
        obtain ⟨⟨y0, y1, y2, _⟩, _⟩ := E9.out
        rw [HTT.out]
        exact bodyPost_ret (v := .tuple #[.agg #[.slice ao Z cap, .int .i64 (i : Nat), .int .i64 3], .slice aa all.length ca]) (by simp [results, Tryd.results48, go_sem, y0, y1, y2]) rfl ⟨aa, ca, rfl, O9.out, G9.out, fun g e => orR (KX.out g e) (fun h => by omega)⟩
    · have hb0 : ((all.length : Int) == 0) = false := by simp [h0]
      rw [show decide (all.length = 0) = false from decide_eq_false h0, show bdP (i, 0) false = (i, 0) from rfl] at ht
      have h1 : 0 < all.length := by omega
      obtain ⟨ga, hag, hgB, hgw, hgc⟩ := HO.out.at h1
      obtain ⟨vv, hv⟩ : ∃ vv : Int, all.getD (all.length - 1) 0 = vv := ⟨_, rfl⟩
      have hcv : w.cell? ⟨ga, all.length - 1, none⟩ = some (.int .i64 vv) := by
        rw [← hv]
        have hh := HO.out
        rw [hag] at hh
        exact hh.cell (by omega)
      rw [hv] at ht
      obtain ⟨k, hk⟩ : ∃ k : Nat, all.length - 1 = k := ⟨_, rfl⟩
      rw [hk] at hcv
      have hki : ((all.length : Int) - 1) = (k : Int) := by omega
      have hkl : k < all.length := by omega
      have HAG := hideM hag
      have HCV := hideM (fun W (hW : Below w.heap.size w W) => (hW.cell (p := ⟨ga, k, none⟩) hgw).trans hcv)
      clear hv hk h0 hag hcv
      go_wp2_with fail
      refine Calls.mono (l5Bad_any ao Z cap i 0 false _) ?_
      rintro e w1 ⟨rfl, hb1⟩
      rw [show bdP (i, 0) false = (i, 0) from rfl]
      dsimp only
      have B0 := hideM (B1.out.below hb1)
      have R0 := hideM (R1.out.below hb1)
      have L0 := hideM (L1.out.trans (hb1.mono L1.out.size))
      clear hb1 B1 R1 L1
      have E0 := hideM (B0.out.set (.slice ao Z cap) (i : Nat) 0)
      have B1 := hideM E0.out.1
      have R1 := hideM (R0.out.grown E0.out.2 (by simp))
      have L1 := hideM (L0.out.grown E0.out.2 (by have := B0.out.lt; omega) (by intro k e; simp at e; omega))
      obtain ⟨b0, b1, b2, bf⟩ := B0.out
      have bf0 := bf 0
      have bf1 := bf 1
      have bf2 := bf 2
      have z1 := B0.out.lt
      clear bf
      go_upto_region 5 with fail
      clear b0 b1 b2 bf0 bf1 bf2 z1 E0 B0 R0 L0
      generalize ((w1.setCell ⟨w.heap.size, 0, none⟩ (.slice ao Z cap)).setCell ⟨w.heap.size, 1, none⟩ (.int .i64 (i : Nat))).setCell ⟨w.heap.size, 2, none⟩ (.int .i64 0) = W1 at *
      obtain ⟨b0, b1, b2, bf⟩ := B1.out
      have z1 := B1.out.lt
      clear bf
      go_wp2_with fail
      refine Calls.mono (HTK.out _ 2 0 L1.out (by decide)) ?_
      rintro e w2 ⟨rfl, hb2⟩
      have B2 := hideM (B1.out.below hb2)
      have R2 := hideM (R1.out.below hb2)
      have L2 := hideM (L1.out.trans (hb2.mono L1.out.size))
      clear hb2 B1 R1 L1
      by_cases hb : i + 2 ≤ 8 * Z
      · obtain ⟨I, hI⟩ : ∃ I : Nat, i + 2 = I := ⟨_, rfl⟩
        have htk : tk zs (i, 0) 2 = ((I, 0), field (bnum zs) i 2) := by unfold tk; rw [if_pos rfl, HZL.out, if_pos hb, ← hI]
        clear hI
        have hτ := HZ.out 2 0 (by decide)
        rw [htk] at ht hτ ⊢
        dsimp only at ht hτ ⊢
        generalize field (bnum zs) i 2 = τ at *
        have E3 := hideM (B2.out.set (.slice ao Z cap) (I : Nat) 0)
        have BW := hideM E3.out.1
        have RW := hideM (R2.out.grown E3.out.2 (by simp))
        have LW := hideM (L2.out.grown E3.out.2 (by have := B2.out.lt; omega) (by intro k e; simp at e; omega))
        obtain ⟨b0, b1, b2, bf⟩ := B2.out
        have bf0 := bf 0
        have bf1 := bf 1
        have bf2 := bf 2
        have z1 := B2.out.lt
        clear bf htk
        have hcv := HCV.out w2 L2.out
        have hag := HAG.out
        subst hag
        have hgw2 : ga < w2.heap.size := World.block_lt_of_cell? w2 _ hcv
        have hgne : ¬ ga = w.heap.size := by omega
        go_upto_region 18 with fail
        clear b0 b1 b2 bf0 bf1 bf2 z1 E3 B2 R2 L2
        generalize ((w2.setCell ⟨w.heap.size, 0, none⟩ (.slice ao Z cap)).setCell ⟨w.heap.size, 1, none⟩ (.int .i64 (I : Nat))).setCell ⟨w.heap.size, 2, none⟩ (.int .i64 0) = W at *
        have HTT : Hid (t = ((I, 0), all ++ List.replicate (τ + 3) vv)) := by
          show _ = _
          first | exact ht.symm | (rw [← ht]; rfl)
        clear ht
        have OW := hideM (HO.out.below LW.out)
        go_loopw [1, 10] (fun v kk wr => ∃ (j : Nat) (a1 : Option Addr) (c1 : Nat), j ≤ (τ + 3) ∧ kk = .int .i64 (j : Nat) ∧ v = .slice a1 (all ++ List.replicate j vv).length c1 ∧ Hid (OwnsI B wr a1 c1 (all ++ List.replicate j vv)) ∧ Hid (L5m wr w.heap.size (.slice ao Z cap) (I : Nat) 0) ∧ Hid (L5m wr (w.heap.size + 1) (.slice none 0 0) 0 0) ∧ Hid (w.grownBy wr (blk (some ⟨ga, 0, none⟩))) ∧ Hid (∀ g, blk a1 = some g → blk (some ⟨ga, 0, none⟩) = some g ∨ w.heap.size + 2 ≤ g)) (fun _ kk _ => (τ + 3) - (intOf kk).toNat)
        case atStart => exact ⟨0, (some ⟨ga, 0, none⟩), ca, Nat.zero_le _, rfl, by simp, by simpa using OW, BW, RW, grownBy_of_below LW.out _, fun g e => .inl e⟩
        case round =>
          clear BW RW LW OW
          obtain ⟨j, a1, c1, hj, rfl, rfl, OX, BX, RX, GX, KX⟩ := hrel
          have hlen : (all ++ List.replicate j vv).length = all.length + j := by simp
          by_cases hlt : j < (τ + 3)
          · have hlti : ((j : Int) < ((τ : Int) + 3)) := by omega
            have HNX : Hid (all ++ List.replicate (j + 1) vv = (all ++ List.replicate j vv) ++ [vv]) := by show _ = _; rw [List.replicate_succ', List.append_assoc]
            generalize all ++ List.replicate j vv = U at *
            have HO2 := hideM (fun A t => OX.out.grown (World.grownBy_alloc wr (.cells A t) none) (by intro j e; cases e))
            have HN := hideM (news_one wr (.int .i64 vv) 2)
            have hszw := GX.out.size
            have hszr := RX.out.lt
            obtain ⟨b0, b1, b2, bf⟩ := BX.out
            have z1 := BX.out.lt
            clear bf
            go_wp2_with (at_builtin; refine wpList_append_cells2 _ rfl _ _ 23 rfl B 2 i0 (.int .i64 0) 1 8 Tryd.underlying23 hi0 hz0 hz1 hz2 rfl (by decide) (.slice a1 U.length c1) U.length (U.map (Value.int .i64)) rfl (HO2.out _ _) ⟨wr.heap.size, 0, none⟩ 1 1 [.int .i64 vv] rfl rfl HN.out (by intro u hu; simp at hu; subst hu; rfl) (by unfold maxLen; omega) (by omega) (by simp; omega) ?_)
            intro v4 w4 hown hgrow hblk
            rw [show U.map (Value.int .i64) ++ [Value.int .i64 vv] = (U ++ [vv]).map (Value.int .i64) from by simp] at hown
            obtain ⟨a4, c4, rfl, ho4⟩ := OwnsI.of hown
            rw [blk_own64] at hgrow
            rw [blk_own64, blk_own64] at hblk
            have hp1 : some w.heap.size ≠ blk a1 := by
              intro e
              rcases KX.out _ e.symm with h | h
              · have := HLIE.out _ h; omega
              · omega
            have hp2 : some (w.heap.size + 1) ≠ blk a1 := by
              intro e
              rcases KX.out _ e.symm with h | h
              · have := HLIE.out _ h; omega
              · omega
            have B4 := hideM ((BX.out.grown (World.grownBy_alloc wr _ none) (by simp)).grown hgrow hp1)
            have R4 := hideM ((RX.out.grown (World.grownBy_alloc wr _ none) (by simp)).grown hgrow hp2)
            have G4 := hideM (grownBy_row (grownBy_row GX.out (World.grownBy_alloc wr _ none) (fun g e => by cases e)) hgrow (fun g e => orR (KX.out g e) (fun h => by omega)))
            have K4 : Hid (∀ g, blk a4 = some g → blk (some ⟨ga, 0, none⟩) = some g ∨ w.heap.size + 2 ≤ g) := by
              intro g e
              rcases hblk with h | h
              · rw [h] at e; exact KX.out g e
              · rw [h] at e
                simp at e
                right
                omega
            have O4 := hideM ho4
            clear hown hgrow hblk hp1 hp2 ho4 HO2 HN b0 b1 b2 z1
            go_wp2_with fail
            go_roundw
            case rel => exact ⟨j + 1, a4, c4, by omega, by go_num, by rw [HNX.out], by rw [HNX.out]; exact O4, B4, R4, G4, K4⟩
            case measure => simp [intOf]; omega
          · have hlti : ¬ ((j : Int) < ((τ : Int) + 3)) := by omega
            have hlti2 : decide ((j : Int) < ((τ : Int) + 3)) = false := decide_eq_false hlti
            have hje : j = (τ + 3) := by omega
            rw [hje] at OX ⊢
            clear hlt hlen
            have HJ := hideM hje
            generalize hU : all ++ List.replicate ((τ + 3)) vv = U at *
            clear hU hje
            obtain ⟨r0, r1, r2, rf⟩ := RX.out
            have rf0 := rf 0
            have rf1 := rf 1
            have rf2 := rf 2
            obtain ⟨b0, b1, b2, bf⟩ := BX.out
            have z1 := BX.out.lt
            have z3 := RX.out.lt
            clear bf rf
            have E9 := hideM (RX.out.set (.slice ao Z cap) (I : Nat) 0)
            have G9 := hideM (grownBy_row GX.out E9.out.2 (fun g e => by simp at e; right; omega))
            have O9 := hideM (OX.out.grown E9.out.2 (fun g e he => by simp at e; subst e; exact (KX.out _ he).elim (fun h => absurd (HLIE.out _ h) (by omega)) (fun h => absurd h (by omega))))
            go_wp2_with fail
            obtain ⟨⟨y0, y1, y2, _⟩, _⟩ := E9.out
            rw [HTT.out]
            exact bodyPost_ret (v := .tuple #[.agg #[.slice ao Z cap, .int .i64 (I : Nat), .int .i64 0], .slice a1 U.length c1]) (by simp [results, Tryd.results48, go_sem, y0, y1, y2]) rfl ⟨a1, c1, rfl, O9.out, G9.out, fun g e => orR (KX.out g e) (fun h => by omega)⟩
      · have htk : tk zs (i, 0) 2 = ((i, 2), 0) := by unfold tk; rw [if_pos rfl, HZL.out, if_neg hb]
        rw [htk] at ht ⊢
        dsimp only at ht ⊢
        have E3 := hideM (B2.out.set (.slice ao Z cap) (i : Nat) 2)
        have BW := hideM E3.out.1
        have RW := hideM (R2.out.grown E3.out.2 (by simp))
        have LW := hideM (L2.out.grown E3.out.2 (by have := B2.out.lt; omega) (by intro k e; simp at e; omega))
        obtain ⟨b0, b1, b2, bf⟩ := B2.out
        have bf0 := bf 0
        have bf1 := bf 1
        have bf2 := bf 2
        have z1 := B2.out.lt
        clear bf htk
        go_upto_region 18 with fail
        clear b0 b1 b2 bf0 bf1 bf2 z1 E3 B2 R2 L2
        generalize ((w2.setCell ⟨w.heap.size, 0, none⟩ (.slice ao Z cap)).setCell ⟨w.heap.size, 1, none⟩ (.int .i64 (i : Nat))).setCell ⟨w.heap.size, 2, none⟩ (.int .i64 2) = W at *
        have HTT : Hid (t = ((i, 2), all)) := by
          show _ = _
          first | exact ht.symm | (rw [← ht]; rfl)
        clear ht
        have OX := hideM (HO.out.below LW.out)
        have GX := hideM (grownBy_of_below LW.out (blk aa))
        have KX : Hid (∀ g, blk aa = some g → blk aa = some g ∨ w.heap.size + 2 ≤ g) := fun g e => .inl e
        have BX := BW
        have RX := RW
        clear BW RW LW
        go_loopw [1, 10] (fun v kk wr => v = .slice aa all.length ca ∧ kk = .int .i64 0 ∧ wr = W) (fun _ _ _ => 0)
        case atStart => exact ⟨rfl, rfl, rfl⟩
        case round =>
          obtain ⟨rfl, rfl, rfl⟩ := hrel
          obtain ⟨r0, r1, r2, rf⟩ := RX.out
          have rf0 := rf 0
          have rf1 := rf 1
          have rf2 := rf 2
          obtain ⟨b0, b1, b2, bf⟩ := BX.out
          have z1 := BX.out.lt
          have z3 := RX.out.lt
          clear bf rf
          have E9 := hideM (RX.out.set (.slice ao Z cap) (i : Nat) 2)
          have G9 := hideM (grownBy_row GX.out E9.out.2 (fun g e => by simp at e; right; omega))
          have O9 := hideM (OX.out.grown E9.out.2 (fun g e he => by simp at e; subst e; exact (KX.out _ he).elim (fun h => absurd (HLIE.out _ h) (by omega)) (fun h => absurd h (by omega))))
          go_wp2_with fail
          obtain ⟨⟨y0, y1, y2, _⟩, _⟩ := E9.out
          rw [HTT.out]
          exact bodyPost_ret (v := .tuple #[.agg #[.slice ao Z cap, .int .i64 (i : Nat), .int .i64 2], .slice aa all.length ca]) (by simp [results, Tryd.results48, go_sem, y0, y1, y2]) rfl ⟨aa, ca, rfl, O9.out, G9.out, fun g e => orR (KX.out g e) (fun h => by omega)⟩

  · by_cases x17 : x = 17
    · have e16 : ((x : Int) == 16) = false := by simp; omega
      have e17 : ((x : Int) == 17) = true := by simp; omega
      have e18 : ((x : Int) == 18) = false := by simp; omega
      rw [if_neg x16, if_pos x17] at ht
      clear x16 x17 hx
      go_wp2_with fail
      refine Calls.mono (HTK.out _ 3 0 L1.out (by decide)) ?_
      rintro e w2 ⟨rfl, hb2⟩
      have B2 := hideM (B1.out.below hb2)
      have R2 := hideM (R1.out.below hb2)
      have L2 := hideM (L1.out.trans (hb2.mono L1.out.size))
      clear hb2 B1 R1 L1
      by_cases hb : i + 3 ≤ 8 * Z
      · obtain ⟨I, hI⟩ : ∃ I : Nat, i + 3 = I := ⟨_, rfl⟩
        have htk : tk zs (i, 0) 3 = ((I, 0), field (bnum zs) i 3) := by unfold tk; rw [if_pos rfl, HZL.out, if_pos hb, ← hI]
        clear hI
        have hτ := HZ.out 3 0 (by decide)
        rw [htk] at ht hτ ⊢
        dsimp only at ht hτ ⊢
        generalize field (bnum zs) i 3 = τ at *
        have E3 := hideM (B2.out.set (.slice ao Z cap) (I : Nat) 0)
        have BW := hideM E3.out.1
        have RW := hideM (R2.out.grown E3.out.2 (by simp))
        have LW := hideM (L2.out.grown E3.out.2 (by have := B2.out.lt; omega) (by intro k e; simp at e; omega))
        obtain ⟨b0, b1, b2, bf⟩ := B2.out
        have bf0 := bf 0
        have bf1 := bf 1
        have bf2 := bf 2
        have z1 := B2.out.lt
        clear bf htk
        go_upto_region 18 with fail
        clear b0 b1 b2 bf0 bf1 bf2 z1 E3 B2 R2 L2
        generalize ((w2.setCell ⟨w.heap.size, 0, none⟩ (.slice ao Z cap)).setCell ⟨w.heap.size, 1, none⟩ (.int .i64 (I : Nat))).setCell ⟨w.heap.size, 2, none⟩ (.int .i64 0) = W at *
        have HTT : Hid (t = ((I, 0), all ++ List.replicate (τ + 3) 0)) := by
          show _ = _
          first | exact ht.symm | (rw [← ht]; rfl)
        clear ht
        have OW := hideM (HO.out.below LW.out)
        go_loopw [1, 10] (fun v kk wr => ∃ (j : Nat) (a1 : Option Addr) (c1 : Nat), j ≤ (τ + 3) ∧ kk = .int .i64 (j : Nat) ∧ v = .slice a1 (all ++ List.replicate j 0).length c1 ∧ Hid (OwnsI B wr a1 c1 (all ++ List.replicate j 0)) ∧ Hid (L5m wr w.heap.size (.slice ao Z cap) (I : Nat) 0) ∧ Hid (L5m wr (w.heap.size + 1) (.slice none 0 0) 0 0) ∧ Hid (w.grownBy wr (blk aa)) ∧ Hid (∀ g, blk a1 = some g → blk aa = some g ∨ w.heap.size + 2 ≤ g)) (fun _ kk _ => (τ + 3) - (intOf kk).toNat)
        case atStart => exact ⟨0, aa, ca, Nat.zero_le _, rfl, by simp, by simpa using OW, BW, RW, grownBy_of_below LW.out _, fun g e => .inl e⟩
        case round =>
          clear BW RW LW OW
          obtain ⟨j, a1, c1, hj, rfl, rfl, OX, BX, RX, GX, KX⟩ := hrel
          have hlen : (all ++ List.replicate j 0).length = all.length + j := by simp
          by_cases hlt : j < (τ + 3)
          · have hlti : ((j : Int) < ((τ : Int) + 3)) := by omega
            have HNX : Hid (all ++ List.replicate (j + 1) 0 = (all ++ List.replicate j 0) ++ [0]) := by show _ = _; rw [List.replicate_succ', List.append_assoc]
            generalize all ++ List.replicate j 0 = U at *
            have HO2 := hideM (fun A t => OX.out.grown (World.grownBy_alloc wr (.cells A t) none) (by intro j e; cases e))
            have HN := hideM (news_one wr (.int .i64 0) 2)
            have hszw := GX.out.size
            have hszr := RX.out.lt
            obtain ⟨b0, b1, b2, bf⟩ := BX.out
            have z1 := BX.out.lt
            clear bf
            go_wp2_with (at_builtin; refine wpList_append_cells2 _ rfl _ _ 23 rfl B 2 i0 (.int .i64 0) 1 8 Tryd.underlying23 hi0 hz0 hz1 hz2 rfl (by decide) (.slice a1 U.length c1) U.length (U.map (Value.int .i64)) rfl (HO2.out _ _) ⟨wr.heap.size, 0, none⟩ 1 1 [.int .i64 0] rfl rfl HN.out (by intro u hu; simp at hu; subst hu; rfl) (by unfold maxLen; omega) (by omega) (by simp; omega) ?_)
            intro v4 w4 hown hgrow hblk
            rw [show U.map (Value.int .i64) ++ [Value.int .i64 0] = (U ++ [0]).map (Value.int .i64) from by simp] at hown
            obtain ⟨a4, c4, rfl, ho4⟩ := OwnsI.of hown
            rw [blk_own64] at hgrow
            rw [blk_own64, blk_own64] at hblk
            have hp1 : some w.heap.size ≠ blk a1 := by
              intro e
              rcases KX.out _ e.symm with h | h
              · have := HLIE.out _ h; omega
              · omega
            have hp2 : some (w.heap.size + 1) ≠ blk a1 := by
              intro e
              rcases KX.out _ e.symm with h | h
              · have := HLIE.out _ h; omega
              · omega
            have B4 := hideM ((BX.out.grown (World.grownBy_alloc wr _ none) (by simp)).grown hgrow hp1)
            have R4 := hideM ((RX.out.grown (World.grownBy_alloc wr _ none) (by simp)).grown hgrow hp2)
            have G4 := hideM (grownBy_row (grownBy_row GX.out (World.grownBy_alloc wr _ none) (fun g e => by cases e)) hgrow (fun g e => orR (KX.out g e) (fun h => by omega)))
            have K4 : Hid (∀ g, blk a4 = some g → blk aa = some g ∨ w.heap.size + 2 ≤ g) := by
              intro g e
              rcases hblk with h | h
              · rw [h] at e; exact KX.out g e
              · rw [h] at e
                simp at e
                right
                omega
            have O4 := hideM ho4
            clear hown hgrow hblk hp1 hp2 ho4 HO2 HN b0 b1 b2 z1
            go_wp2_with fail
            go_roundw
            case rel => exact ⟨j + 1, a4, c4, by omega, by go_num, by rw [HNX.out], by rw [HNX.out]; exact O4, B4, R4, G4, K4⟩
            case measure => simp [intOf]; omega
          · have hlti : ¬ ((j : Int) < ((τ : Int) + 3)) := by omega
            have hlti2 : decide ((j : Int) < ((τ : Int) + 3)) = false := decide_eq_false hlti
            have hje : j = (τ + 3) := by omega
            rw [hje] at OX ⊢
            clear hlt hlen
            have HJ := hideM hje
            generalize hU : all ++ List.replicate ((τ + 3)) 0 = U at *
            clear hU hje
            obtain ⟨r0, r1, r2, rf⟩ := RX.out
            have rf0 := rf 0
            have rf1 := rf 1
            have rf2 := rf 2
            obtain ⟨b0, b1, b2, bf⟩ := BX.out
            have z1 := BX.out.lt
            have z3 := RX.out.lt
            clear bf rf
            have E9 := hideM (RX.out.set (.slice ao Z cap) (I : Nat) 0)
            have G9 := hideM (grownBy_row GX.out E9.out.2 (fun g e => by simp at e; right; omega))
            have O9 := hideM (OX.out.grown E9.out.2 (fun g e he => by simp at e; subst e; exact (KX.out _ he).elim (fun h => absurd (HLIE.out _ h) (by omega)) (fun h => absurd h (by omega))))
            go_wp2_with fail
            obtain ⟨⟨y0, y1, y2, _⟩, _⟩ := E9.out
            rw [HTT.out]
            exact bodyPost_ret (v := .tuple #[.agg #[.slice ao Z cap, .int .i64 (I : Nat), .int .i64 0], .slice a1 U.length c1]) (by simp [results, Tryd.results48, go_sem, y0, y1, y2]) rfl ⟨a1, c1, rfl, O9.out, G9.out, fun g e => orR (KX.out g e) (fun h => by omega)⟩
      · have htk : tk zs (i, 0) 3 = ((i, 2), 0) := by unfold tk; rw [if_pos rfl, HZL.out, if_neg hb]
        rw [htk] at ht ⊢
        dsimp only at ht ⊢
        have E3 := hideM (B2.out.set (.slice ao Z cap) (i : Nat) 2)
        have BW := hideM E3.out.1
        have RW := hideM (R2.out.grown E3.out.2 (by simp))
        have LW := hideM (L2.out.grown E3.out.2 (by have := B2.out.lt; omega) (by intro k e; simp at e; omega))
        obtain ⟨b0, b1, b2, bf⟩ := B2.out
        have bf0 := bf 0
        have bf1 := bf 1
        have bf2 := bf 2
        have z1 := B2.out.lt
        clear bf htk
        go_upto_region 18 with fail
        clear b0 b1 b2 bf0 bf1 bf2 z1 E3 B2 R2 L2
        generalize ((w2.setCell ⟨w.heap.size, 0, none⟩ (.slice ao Z cap)).setCell ⟨w.heap.size, 1, none⟩ (.int .i64 (i : Nat))).setCell ⟨w.heap.size, 2, none⟩ (.int .i64 2) = W at *
        have HTT : Hid (t = ((i, 2), all)) := by
          show _ = _
          first | exact ht.symm | (rw [← ht]; rfl)
        clear ht
        have OX := hideM (HO.out.below LW.out)
        have GX := hideM (grownBy_of_below LW.out (blk aa))
        have KX : Hid (∀ g, blk aa = some g → blk aa = some g ∨ w.heap.size + 2 ≤ g) := fun g e => .inl e
        have BX := BW
        have RX := RW
        clear BW RW LW
        go_loopw [1, 10] (fun v kk wr => v = .slice aa all.length ca ∧ kk = .int .i64 0 ∧ wr = W) (fun _ _ _ => 0)
        case atStart => exact ⟨rfl, rfl, rfl⟩
        case round =>
          obtain ⟨rfl, rfl, rfl⟩ := hrel
          obtain ⟨r0, r1, r2, rf⟩ := RX.out
          have rf0 := rf 0
          have rf1 := rf 1
          have rf2 := rf 2
          obtain ⟨b0, b1, b2, bf⟩ := BX.out
          have z1 := BX.out.lt
          have z3 := RX.out.lt
          clear bf rf
          have E9 := hideM (RX.out.set (.slice ao Z cap) (i : Nat) 2)
          have G9 := hideM (grownBy_row GX.out E9.out.2 (fun g e => by simp at e; right; omega))
          have O9 := hideM (OX.out.grown E9.out.2 (fun g e he => by simp at e; subst e; exact (KX.out _ he).elim (fun h => absurd (HLIE.out _ h) (by omega)) (fun h => absurd h (by omega))))
          go_wp2_with fail
          obtain ⟨⟨y0, y1, y2, _⟩, _⟩ := E9.out
          rw [HTT.out]
          exact bodyPost_ret (v := .tuple #[.agg #[.slice ao Z cap, .int .i64 (i : Nat), .int .i64 2], .slice aa all.length ca]) (by simp [results, Tryd.results48, go_sem, y0, y1, y2]) rfl ⟨aa, ca, rfl, O9.out, G9.out, fun g e => orR (KX.out g e) (fun h => by omega)⟩

    · by_cases x18 : x = 18
      · have e16 : ((x : Int) == 16) = false := by simp; omega
        have e17 : ((x : Int) == 17) = false := by simp; omega
        have e18 : ((x : Int) == 18) = true := by simp; omega
        rw [if_neg x16, if_neg x17, if_pos x18] at ht
        clear x16 x17 x18 hx
        go_wp2_with fail
        refine Calls.mono (HTK.out _ 7 0 L1.out (by decide)) ?_
        rintro e w2 ⟨rfl, hb2⟩
        have B2 := hideM (B1.out.below hb2)
        have R2 := hideM (R1.out.below hb2)
        have L2 := hideM (L1.out.trans (hb2.mono L1.out.size))
        clear hb2 B1 R1 L1
        by_cases hb : i + 7 ≤ 8 * Z
        · obtain ⟨I, hI⟩ : ∃ I : Nat, i + 7 = I := ⟨_, rfl⟩
          have htk : tk zs (i, 0) 7 = ((I, 0), field (bnum zs) i 7) := by unfold tk; rw [if_pos rfl, HZL.out, if_pos hb, ← hI]
          clear hI
          have hτ := HZ.out 7 0 (by decide)
          rw [htk] at ht hτ ⊢
          dsimp only at ht hτ ⊢
          generalize field (bnum zs) i 7 = τ at *
          have E3 := hideM (B2.out.set (.slice ao Z cap) (I : Nat) 0)
          have BW := hideM E3.out.1
          have RW := hideM (R2.out.grown E3.out.2 (by simp))
          have LW := hideM (L2.out.grown E3.out.2 (by have := B2.out.lt; omega) (by intro k e; simp at e; omega))
          obtain ⟨b0, b1, b2, bf⟩ := B2.out
          have bf0 := bf 0
          have bf1 := bf 1
          have bf2 := bf 2
          have z1 := B2.out.lt
          clear bf htk
          go_upto_region 18 with fail
          clear b0 b1 b2 bf0 bf1 bf2 z1 E3 B2 R2 L2
          generalize ((w2.setCell ⟨w.heap.size, 0, none⟩ (.slice ao Z cap)).setCell ⟨w.heap.size, 1, none⟩ (.int .i64 (I : Nat))).setCell ⟨w.heap.size, 2, none⟩ (.int .i64 0) = W at *
          have HTT : Hid (t = ((I, 0), all ++ List.replicate (τ + 11) 0)) := by
            show _ = _
            first | exact ht.symm | (rw [← ht]; rfl)
          clear ht
          have OW := hideM (HO.out.below LW.out)
          go_loopw [1, 10] (fun v kk wr => ∃ (j : Nat) (a1 : Option Addr) (c1 : Nat), j ≤ (τ + 11) ∧ kk = .int .i64 (j : Nat) ∧ v = .slice a1 (all ++ List.replicate j 0).length c1 ∧ Hid (OwnsI B wr a1 c1 (all ++ List.replicate j 0)) ∧ Hid (L5m wr w.heap.size (.slice ao Z cap) (I : Nat) 0) ∧ Hid (L5m wr (w.heap.size + 1) (.slice none 0 0) 0 0) ∧ Hid (w.grownBy wr (blk aa)) ∧ Hid (∀ g, blk a1 = some g → blk aa = some g ∨ w.heap.size + 2 ≤ g)) (fun _ kk _ => (τ + 11) - (intOf kk).toNat)
          case atStart => exact ⟨0, aa, ca, Nat.zero_le _, rfl, by simp, by simpa using OW, BW, RW, grownBy_of_below LW.out _, fun g e => .inl e⟩
          case round =>
            clear BW RW LW OW
            obtain ⟨j, a1, c1, hj, rfl, rfl, OX, BX, RX, GX, KX⟩ := hrel
            have hlen : (all ++ List.replicate j 0).length = all.length + j := by simp
            by_cases hlt : j < (τ + 11)
            · have hlti : ((j : Int) < ((τ : Int) + 11)) := by omega
              have HNX : Hid (all ++ List.replicate (j + 1) 0 = (all ++ List.replicate j 0) ++ [0]) := by show _ = _; rw [List.replicate_succ', List.append_assoc]
              generalize all ++ List.replicate j 0 = U at *
              have HO2 := hideM (fun A t => OX.out.grown (World.grownBy_alloc wr (.cells A t) none) (by intro j e; cases e))
              have HN := hideM (news_one wr (.int .i64 0) 2)
              have hszw := GX.out.size
              have hszr := RX.out.lt
              obtain ⟨b0, b1, b2, bf⟩ := BX.out
              have z1 := BX.out.lt
              clear bf
              go_wp2_with (at_builtin; refine wpList_append_cells2 _ rfl _ _ 23 rfl B 2 i0 (.int .i64 0) 1 8 Tryd.underlying23 hi0 hz0 hz1 hz2 rfl (by decide) (.slice a1 U.length c1) U.length (U.map (Value.int .i64)) rfl (HO2.out _ _) ⟨wr.heap.size, 0, none⟩ 1 1 [.int .i64 0] rfl rfl HN.out (by intro u hu; simp at hu; subst hu; rfl) (by unfold maxLen; omega) (by omega) (by simp; omega) ?_)
              intro v4 w4 hown hgrow hblk
              rw [show U.map (Value.int .i64) ++ [Value.int .i64 0] = (U ++ [0]).map (Value.int .i64) from by simp] at hown
              obtain ⟨a4, c4, rfl, ho4⟩ := OwnsI.of hown
              rw [blk_own64] at hgrow
              rw [blk_own64, blk_own64] at hblk
              have hp1 : some w.heap.size ≠ blk a1 := by
                intro e
                rcases KX.out _ e.symm with h | h
                · have := HLIE.out _ h; omega
                · omega
              have hp2 : some (w.heap.size + 1) ≠ blk a1 := by
                intro e
                rcases KX.out _ e.symm with h | h
                · have := HLIE.out _ h; omega
                · omega
              have B4 := hideM ((BX.out.grown (World.grownBy_alloc wr _ none) (by simp)).grown hgrow hp1)
              have R4 := hideM ((RX.out.grown (World.grownBy_alloc wr _ none) (by simp)).grown hgrow hp2)
              have G4 := hideM (grownBy_row (grownBy_row GX.out (World.grownBy_alloc wr _ none) (fun g e => by cases e)) hgrow (fun g e => orR (KX.out g e) (fun h => by omega)))
              have K4 : Hid (∀ g, blk a4 = some g → blk aa = some g ∨ w.heap.size + 2 ≤ g) := by
                intro g e
                rcases hblk with h | h
                · rw [h] at e; exact KX.out g e
                · rw [h] at e
                  simp at e
                  right
                  omega
              have O4 := hideM ho4
              clear hown hgrow hblk hp1 hp2 ho4 HO2 HN b0 b1 b2 z1
              go_wp2_with fail
              go_roundw
              case rel => exact ⟨j + 1, a4, c4, by omega, by go_num, by rw [HNX.out], by rw [HNX.out]; exact O4, B4, R4, G4, K4⟩
              case measure => simp [intOf]; omega
            · have hlti : ¬ ((j : Int) < ((τ : Int) + 11)) := by omega
              have hlti2 : decide ((j : Int) < ((τ : Int) + 11)) = false := decide_eq_false hlti
              have hje : j = (τ + 11) := by omega
              rw [hje] at OX ⊢
              clear hlt hlen
              have HJ := hideM hje
              generalize hU : all ++ List.replicate ((τ + 11)) 0 = U at *
              clear hU hje
              obtain ⟨r0, r1, r2, rf⟩ := RX.out
              have rf0 := rf 0
              have rf1 := rf 1
              have rf2 := rf 2
              obtain ⟨b0, b1, b2, bf⟩ := BX.out
              have z1 := BX.out.lt
              have z3 := RX.out.lt
              clear bf rf
              have E9 := hideM (RX.out.set (.slice ao Z cap) (I : Nat) 0)
              have G9 := hideM (grownBy_row GX.out E9.out.2 (fun g e => by simp at e; right; omega))
              have O9 := hideM (OX.out.grown E9.out.2 (fun g e he => by simp at e; subst e; exact (KX.out _ he).elim (fun h => absurd (HLIE.out _ h) (by omega)) (fun h => absurd h (by omega))))
              go_wp2_with fail
              obtain ⟨⟨y0, y1, y2, _⟩, _⟩ := E9.out
              rw [HTT.out]
              exact bodyPost_ret (v := .tuple #[.agg #[.slice ao Z cap, .int .i64 (I : Nat), .int .i64 0], .slice a1 U.length c1]) (by simp [results, Tryd.results48, go_sem, y0, y1, y2]) rfl ⟨a1, c1, rfl, O9.out, G9.out, fun g e => orR (KX.out g e) (fun h => by omega)⟩
        · have htk : tk zs (i, 0) 7 = ((i, 2), 0) := by unfold tk; rw [if_pos rfl, HZL.out, if_neg hb]
          rw [htk] at ht ⊢
          dsimp only at ht ⊢
          have E3 := hideM (B2.out.set (.slice ao Z cap) (i : Nat) 2)
          have BW := hideM E3.out.1
          have RW := hideM (R2.out.grown E3.out.2 (by simp))
          have LW := hideM (L2.out.grown E3.out.2 (by have := B2.out.lt; omega) (by intro k e; simp at e; omega))
          obtain ⟨b0, b1, b2, bf⟩ := B2.out
          have bf0 := bf 0
          have bf1 := bf 1
          have bf2 := bf 2
          have z1 := B2.out.lt
          clear bf htk
          go_upto_region 18 with fail
          clear b0 b1 b2 bf0 bf1 bf2 z1 E3 B2 R2 L2
          generalize ((w2.setCell ⟨w.heap.size, 0, none⟩ (.slice ao Z cap)).setCell ⟨w.heap.size, 1, none⟩ (.int .i64 (i : Nat))).setCell ⟨w.heap.size, 2, none⟩ (.int .i64 2) = W at *
          have HTT : Hid (t = ((i, 2), all)) := by
            show _ = _
            first | exact ht.symm | (rw [← ht]; rfl)
          clear ht
          have OX := hideM (HO.out.below LW.out)
          have GX := hideM (grownBy_of_below LW.out (blk aa))
          have KX : Hid (∀ g, blk aa = some g → blk aa = some g ∨ w.heap.size + 2 ≤ g) := fun g e => .inl e
          have BX := BW
          have RX := RW
          clear BW RW LW
          go_loopw [1, 10] (fun v kk wr => v = .slice aa all.length ca ∧ kk = .int .i64 0 ∧ wr = W) (fun _ _ _ => 0)
          case atStart => exact ⟨rfl, rfl, rfl⟩
          case round =>
            obtain ⟨rfl, rfl, rfl⟩ := hrel
            obtain ⟨r0, r1, r2, rf⟩ := RX.out
            have rf0 := rf 0
            have rf1 := rf 1
            have rf2 := rf 2
            obtain ⟨b0, b1, b2, bf⟩ := BX.out
            have z1 := BX.out.lt
            have z3 := RX.out.lt
            clear bf rf
            have E9 := hideM (RX.out.set (.slice ao Z cap) (i : Nat) 2)
            have G9 := hideM (grownBy_row GX.out E9.out.2 (fun g e => by simp at e; right; omega))
            have O9 := hideM (OX.out.grown E9.out.2 (fun g e he => by simp at e; subst e; exact (KX.out _ he).elim (fun h => absurd (HLIE.out _ h) (by omega)) (fun h => absurd h (by omega))))
            go_wp2_with fail
            obtain ⟨⟨y0, y1, y2, _⟩, _⟩ := E9.out
            rw [HTT.out]
            exact bodyPost_ret (v := .tuple #[.agg #[.slice ao Z cap, .int .i64 (i : Nat), .int .i64 2], .slice aa all.length ca]) (by simp [results, Tryd.results48, go_sem, y0, y1, y2]) rfl ⟨aa, ca, rfl, O9.out, G9.out, fun g e => orR (KX.out g e) (fun h => by omega)⟩

      · have e16 : ((x : Int) == 16) = false := by simp; omega
        have e17 : ((x : Int) == 17) = false := by simp; omega
        have e18 : ((x : Int) == 18) = false := by simp; omega
        rw [if_neg x16, if_neg x17, if_neg x18] at ht
        clear x16 x17 x18 hx
        go_upto_region 18 with fail
        rw [show ups (i, 0) all (x : Nat) 1 = all ++ List.replicate 1 ((x : Nat) : Int) from rfl] at ht
        have BW := B1
        have RW := R1
        have LW := L1
        clear B1 R1 L1
        generalize (w.alloc (.cells #[.slice ao Z cap, .int .i64 (i : Nat), .int .i64 0] 43)).alloc (.cells #[.slice none 0 0, .int .i64 0, .int .i64 0] 43) = W at *
        have HTT : Hid (t = ((i, 0), all ++ List.replicate 1 ((x : Nat) : Int))) := by
          show _ = _
          first | exact ht.symm | (rw [← ht]; rfl)
        clear ht
        have OW := hideM (HO.out.below LW.out)
        go_loopw [1, 10] (fun v kk wr => ∃ (j : Nat) (a1 : Option Addr) (c1 : Nat), j ≤ 1 ∧ kk = .int .i64 (j : Nat) ∧ v = .slice a1 (all ++ List.replicate j ((x : Nat) : Int)).length c1 ∧ Hid (OwnsI B wr a1 c1 (all ++ List.replicate j ((x : Nat) : Int))) ∧ Hid (L5m wr w.heap.size (.slice ao Z cap) (i : Nat) 0) ∧ Hid (L5m wr (w.heap.size + 1) (.slice none 0 0) 0 0) ∧ Hid (w.grownBy wr (blk aa)) ∧ Hid (∀ g, blk a1 = some g → blk aa = some g ∨ w.heap.size + 2 ≤ g)) (fun _ kk _ => 1 - (intOf kk).toNat)
        case atStart => exact ⟨0, aa, ca, Nat.zero_le _, rfl, by simp, by simpa using OW, BW, RW, grownBy_of_below LW.out _, fun g e => .inl e⟩
        case round =>
          clear BW RW LW OW
          obtain ⟨j, a1, c1, hj, rfl, rfl, OX, BX, RX, GX, KX⟩ := hrel
          have hlen : (all ++ List.replicate j ((x : Nat) : Int)).length = all.length + j := by simp
          by_cases hlt : j < 1
          · have hlti : ((j : Int) < (1 : Int)) := by omega
            have HNX : Hid (all ++ List.replicate (j + 1) ((x : Nat) : Int) = (all ++ List.replicate j ((x : Nat) : Int)) ++ [((x : Nat) : Int)]) := by show _ = _; rw [List.replicate_succ', List.append_assoc]
            generalize all ++ List.replicate j ((x : Nat) : Int) = U at *
            have HO2 := hideM (fun A t => OX.out.grown (World.grownBy_alloc wr (.cells A t) none) (by intro j e; cases e))
            have HN := hideM (news_one wr (.int .i64 ((x : Nat) : Int)) 2)
            have hszw := GX.out.size
            have hszr := RX.out.lt
            obtain ⟨b0, b1, b2, bf⟩ := BX.out
            have z1 := BX.out.lt
            clear bf
            go_wp2_with (at_builtin; refine wpList_append_cells2 _ rfl _ _ 23 rfl B 2 i0 (.int .i64 0) 1 8 Tryd.underlying23 hi0 hz0 hz1 hz2 rfl (by decide) (.slice a1 U.length c1) U.length (U.map (Value.int .i64)) rfl (HO2.out _ _) ⟨wr.heap.size, 0, none⟩ 1 1 [.int .i64 ((x : Nat) : Int)] rfl rfl HN.out (by intro u hu; simp at hu; subst hu; rfl) (by unfold maxLen; omega) (by omega) (by simp; omega) ?_)
            intro v4 w4 hown hgrow hblk
            rw [show U.map (Value.int .i64) ++ [Value.int .i64 ((x : Nat) : Int)] = (U ++ [((x : Nat) : Int)]).map (Value.int .i64) from by simp] at hown
            obtain ⟨a4, c4, rfl, ho4⟩ := OwnsI.of hown
            rw [blk_own64] at hgrow
            rw [blk_own64, blk_own64] at hblk
            have hp1 : some w.heap.size ≠ blk a1 := by
              intro e
              rcases KX.out _ e.symm with h | h
              · have := HLIE.out _ h; omega
              · omega
            have hp2 : some (w.heap.size + 1) ≠ blk a1 := by
              intro e
              rcases KX.out _ e.symm with h | h
              · have := HLIE.out _ h; omega
              · omega
            have B4 := hideM ((BX.out.grown (World.grownBy_alloc wr _ none) (by simp)).grown hgrow hp1)
            have R4 := hideM ((RX.out.grown (World.grownBy_alloc wr _ none) (by simp)).grown hgrow hp2)
            have G4 := hideM (grownBy_row (grownBy_row GX.out (World.grownBy_alloc wr _ none) (fun g e => by cases e)) hgrow (fun g e => orR (KX.out g e) (fun h => by omega)))
            have K4 : Hid (∀ g, blk a4 = some g → blk aa = some g ∨ w.heap.size + 2 ≤ g) := by
              intro g e
              rcases hblk with h | h
              · rw [h] at e; exact KX.out g e
              · rw [h] at e
                simp at e
                right
                omega
            have O4 := hideM ho4
            clear hown hgrow hblk hp1 hp2 ho4 HO2 HN b0 b1 b2 z1
            go_wp2_with fail
            go_roundw
            case rel => exact ⟨j + 1, a4, c4, by omega, by go_num, by rw [HNX.out], by rw [HNX.out]; exact O4, B4, R4, G4, K4⟩
            case measure => simp [intOf]; omega
          · have hlti : ¬ ((j : Int) < (1 : Int)) := by omega
            have hlti2 : decide ((j : Int) < (1 : Int)) = false := decide_eq_false hlti
            have hje : j = 1 := by omega
            rw [hje] at OX ⊢
            clear hlt hlen
            have HJ := hideM hje
            generalize hU : all ++ List.replicate (1) ((x : Nat) : Int) = U at *
            clear hU hje
            obtain ⟨r0, r1, r2, rf⟩ := RX.out
            have rf0 := rf 0
            have rf1 := rf 1
            have rf2 := rf 2
            obtain ⟨b0, b1, b2, bf⟩ := BX.out
            have z1 := BX.out.lt
            have z3 := RX.out.lt
            clear bf rf
            have E9 := hideM (RX.out.set (.slice ao Z cap) (i : Nat) 0)
            have G9 := hideM (grownBy_row GX.out E9.out.2 (fun g e => by simp at e; right; omega))
            have O9 := hideM (OX.out.grown E9.out.2 (fun g e he => by simp at e; subst e; exact (KX.out _ he).elim (fun h => absurd (HLIE.out _ h) (by omega)) (fun h => absurd h (by omega))))
            go_wp2_with fail
            obtain ⟨⟨y0, y1, y2, _⟩, _⟩ := E9.out
            rw [HTT.out]
            exact bodyPost_ret (v := .tuple #[.agg #[.slice ao Z cap, .int .i64 (i : Nat), .int .i64 0], .slice a1 U.length c1]) (by simp [results, Tryd.results48, go_sem, y0, y1, y2]) rfl ⟨a1, c1, rfl, O9.out, G9.out, fun g e => orR (KX.out g e) (fun h => by omega)⟩
end Go.Proofs.YtlffdadmgginmaeDoor
namespace Go.Proofs.YtlffdadmgginmaeDoor
open Go.RowKit
attribute [local go_sem ↓] Go.wp_at_zero Go.wp_at_succ
set_option linter.unusedVariables false

theorem tk_le {zs : List Int} {r : RR} {n : Nat} (h : r.1 ≤ 8 * zs.length) : (tk zs r n).1.1 ≤ 8 * zs.length := by
  unfold tk
  split
  · split
    · rename_i h1; exact h1
    · exact h
  · exact h
theorem tk_lt (zs : List Int) (r : RR) (n : Nat) : (tk zs r n).2 < 2 ^ n := by
  have h0 : 0 < 2 ^ n := Nat.two_pow_pos n
  unfold tk
  split
  · split
    · exact field_lt _ _ _
    · exact h0
  · exact h0
theorem bdP_fst (r : RR) (p : Bool) : (bdP r p).1 = r.1 := by unfold bdP; split <;> rfl
theorem sy_le {zs tb : List Int} {r : RR} (h : r.1 ≤ 8 * zs.length) : (sy zs r tb).1.1 ≤ 8 * zs.length := by
  unfold sy
  split
  · have h1 := @nx3_len tb (field (bnum zs) r.1 (lkn zs r.1)) (lkn zs r.1)
    have h2 : lkn zs r.1 ≤ 8 * zs.length - r.1 := Nat.min_le_left _ _
    dsimp only
    omega
  · exact h
theorem sy_sym {zs tb : List Int} {r : RR} (h0 : r.2 = 0) (h1 : (sy zs r tb).1.2 = 0) : (sy zs r tb).2 < tb.length := by
  unfold sy at h1 ⊢
  rw [if_pos h0] at h1 ⊢
  dsimp only at h1 ⊢
  rcases nx3_kinds tb (field (bnum zs) r.1 (lkn zs r.1)) (lkn zs r.1) with h | h | h
  · rw [h, if_neg (by decide), if_pos rfl] at h1; exact absurd h1 (by decide)
  · exact (nx3_sym h).1
  · rw [h, if_pos rfl] at h1; exact absurd h1 (by decide)
theorem rpt_le {zs all : List Int} {r : RR} {x : Nat} (h : r.1 ≤ 8 * zs.length) : (rpt zs r all x).1.1 ≤ 8 * zs.length := by
  unfold rpt
  split
  · exact tk_le (by rw [bdP_fst]; exact h)
  · split
    · exact tk_le h
    · split
      · exact tk_le h
      · exact h
theorem ups_len (r : RR) (all : List Int) (v : Int) (t : Nat) : (ups r all v t).length ≤ all.length + t := by
  unfold ups; split <;> simp
theorem rpt_len (zs all : List Int) (r : RR) (x : Nat) : (rpt zs r all x).2.length ≤ all.length + 138 := by
  unfold rpt
  split
  · refine Nat.le_trans (ups_len _ _ _ _) ?_
    have := tk_lt zs (bdP r (decide (all.length = 0))) 2
    omega
  · split
    · refine Nat.le_trans (ups_len _ _ _ _) ?_
      have := tk_lt zs r 3
      omega
    · split
      · refine Nat.le_trans (ups_len _ _ _ _) ?_
        have := tk_lt zs r 7
        omega
      · refine Nat.le_trans (ups_len _ _ _ _) ?_
        omega
theorem RowH.grownL {B n : Nat} {w w' : World} {row : Option Nat} {ao : Option Addr} {F : Nat → Nat × Nat} (h : RowH B w ao n F) (hg : w.grownBy w' row) (hne : ∀ k, row = some k → k < B) : RowH B w' ao n F := fun h0 => by
  obtain ⟨g, h1, h2, h3⟩ := h h0
  exact ⟨g, h1, h2, h3.grown hg (fun e => by have := hne g e.symm; omega)⟩
theorem hk_okC {zs : List Int} (h : hk zs = 1) : okC zs = true := by
  have ho : okB zs = true := by
    cases hb : okB zs with
    | true => rfl
    | false =>
      unfold hk at h
      rw [hb, if_neg (by decide)] at h
      exact absurd h (by decide)
  unfold okC
  rw [h, ho]
  rfl
theorem At.weak {zs : List Int} {k : Int} {cf : LC} {s : Nat} {r : RR} {P Q : LC → Prop} (h : At zs k cf s r P) (hq : ∀ c, P c → Q c) : At zs k cf s r Q :=
  ⟨h.no, fun e => by obtain ⟨c, h1, h2, h3, h4, h5⟩ := h.yes e; exact ⟨c, h1, h2, h3, h4, hq c h5⟩⟩
theorem own19 (w : World) (B : Nat) (hB : B ≤ w.heap.size) : OwnsI B (w.alloc (.cells #[.int .i64 0, .int .i64 0, .int .i64 0, .int .i64 0, .int .i64 0, .int .i64 0, .int .i64 0, .int .i64 0, .int .i64 0, .int .i64 0, .int .i64 0, .int .i64 0, .int .i64 0, .int .i64 0, .int .i64 0, .int .i64 0, .int .i64 0, .int .i64 0, .int .i64 0] 2)) (some ⟨w.heap.size, 0, none⟩) 19 (List.replicate 19 0) :=
  World.ownsRow_lit w #[.int .i64 0, .int .i64 0, .int .i64 0, .int .i64 0, .int .i64 0, .int .i64 0, .int .i64 0, .int .i64 0, .int .i64 0, .int .i64 0, .int .i64 0, .int .i64 0, .int .i64 0, .int .i64 0, .int .i64 0, .int .i64 0, .int .i64 0, .int .i64 0, .int .i64 0] 19 hB (by unfold maxLen; omega) rfl
/-- Codes that lie between two places. -/
def CodesIn (lo hi : Nat) (w : World) (co : Option Addr) (n : Nat) (F : Nat → Nat × Nat) : Prop := 0 < n → ∃ g, co = some ⟨g, 0, none⟩ ∧ lo ≤ g ∧ g < hi ∧ Codes w g n F
theorem CodesIn.grown {lo hi n : Nat} {w w' : World} {row : Option Nat} {co : Option Addr} {F : Nat → Nat × Nat} (h : CodesIn lo hi w co n F) (hg : w.grownBy w' row) (hne : ∀ k, row = some k → k < lo ∨ hi ≤ k) : CodesIn lo hi w' co n F := fun h0 => by
  obtain ⟨g, h1, h2, h3, h4⟩ := h h0
  exact ⟨g, h1, h2, h3, h4.grown hg (fun e => by have := hne g e.symm; omega)⟩
theorem CodesIn.below {lo hi n : Nat} {w w' : World} {co : Option Addr} {F : Nat → Nat × Nat} (h : CodesIn lo hi w co n F) (hb : Below w.heap.size w w') : CodesIn lo hi w' co n F := h.grown (grownBy_of_below hb none) (fun k e => by cases e)
theorem CodesIn.reads {lo hi n : Nat} {w : World} {co : Option Addr} {F : Nat → Nat × Nat} (h : CodesIn lo hi w co n F) : Reads w co n F := fun h0 => by
  obtain ⟨g, h1, _, _, h4⟩ := h h0
  exact ⟨g, h1, h4⟩
theorem RowH.codesIn {B lo : Nat} {w : World} {co : Option Addr} {n : Nat} {F : Nat → Nat × Nat} (h : RowH B w co n F) (hB : lo ≤ B) (hlt : ∀ g, Codes w g n F → 0 < n → g < w.heap.size) : CodesIn lo w.heap.size w co n F := fun h0 => by
  obtain ⟨g, h1, h2, h3⟩ := h h0
  exact ⟨g, h1, by omega, hlt g h3 h0, h3⟩
theorem Row64.grownL {w w' : World} {row : Option Nat} {g o : Nat} {zs : List Int} (h : Row64 w (some ⟨g, o, none⟩) zs) (hg : w.grownBy w' row) (hne : some g ≠ row) : Row64 w' (some ⟨g, o, none⟩) zs := by
  intro i hi
  obtain ⟨b, off, e, hc⟩ := h i hi
  cases e
  exact ⟨g, o, rfl, (World.cell?_of_block (w := w) (a := ⟨g, o + i, none⟩) (hg.block g (World.block_lt_of_cell? w _ hc) hne)).trans hc⟩
theorem bne_dec (a b : Int) : (a != b) = decide (a ≠ b) := by
  by_cases h : a = b <;> simp [h]
/-- What l5Lens answers. -/
def LensPost (zs : List Int) (ao : Option Addr) (cap : Nat) (k : Int) (cf : LC) (e : Ending) (w w' : World) : Prop :=
  ∃ (i' : Nat) (cl : Int) (a1 : Option Addr) (n1 c1 : Nat) (a2 : Option Addr) (n2 c2 : Nat), e = .returned (.tuple #[.agg #[.slice ao zs.length cap, .int .i64 (i' : Nat), .int .i64 cl], .slice a1 n1 c1, .slice a2 n2 c2]) ∧
    (k = 1 → cl = 0 ∧ i' = cf.i ∧ n1 = (cf.lens.take (cf.f 2).toNat).length ∧ n2 = (cf.lens.drop (cf.f 2).toNat).length ∧ Row64 w' a1 (cf.lens.take (cf.f 2).toNat) ∧ Row64 w' a2 (cf.lens.drop (cf.f 2).toNat)) ∧ (k ≠ 1 → cl = k) ∧ Below w.heap.size w w'
set_option maxRecDepth 100000 in
set_option maxHeartbeats 25600000 in
theorem l5Lens_any (ao : Option Addr) (cap : Nat) (zs : List Int) (i : Nat) (k : Int) (cf c0 : LC) (w : World) (hr : Row w ao zs) (hz : Octets zs) (hzl : zs.length ≤ 65536) (hi : i ≤ 8 * zs.length) (hc0 : c0.st = 0) (hci : c0.i = i) (he : LEnds zs c0 k cf) :
    Calls Tryd.prog 20 #[.agg #[.slice ao zs.length cap, .int .i64 (i : Nat), .int .i64 0]] w fun e w' => LensPost zs ao cap k cf e w w' := by
  have HTK : Hid (∀ W i n cl, Below w.heap.size w W → i ≤ 8 * zs.length → n ≤ 32 → Calls Tryd.prog 42 #[.agg #[.slice ao zs.length cap, .int .i64 (i : Nat), .int .i64 cl], .int .i64 (n : Nat)] W fun e w' => e = .returned (.tuple #[.agg #[.slice ao zs.length cap, .int .i64 ((tk zs (i, cl) n).1.1 : Nat), .int .i64 (tk zs (i, cl) n).1.2], .int .i64 ((tk zs (i, cl) n).2 : Nat)]) ∧ Below W.heap.size W w') := fun W i n cl hW hi hn => l5Take_any ao cap zs i n cl W (hr.below hW) hz hzl hi hn
  have HSY : Hid (∀ W i cl tb co nc cc, Below w.heap.size w W → i ≤ 8 * zs.length → (cl = 0 → okC tb = true ∧ nc = tb.length ∧ Reads W co tb.length (code tb)) → Calls Tryd.prog 47 #[.agg #[.slice ao zs.length cap, .int .i64 (i : Nat), .int .i64 cl], .slice co nc cc] W fun e w' => e = .returned (.tuple #[.agg #[.slice ao zs.length cap, .int .i64 ((sy zs (i, cl) tb).1.1 : Nat), .int .i64 (sy zs (i, cl) tb).1.2], .int .i64 ((sy zs (i, cl) tb).2 : Nat)]) ∧ Below W.heap.size W w') := fun W i cl tb co nc cc hW hi hcd => l5Sym_any ao cap zs i cl tb co nc cc W (hr.below hW) hz hzl hi hcd
  have HRP : Hid (∀ W i aa ca all x B, Below w.heap.size w W → i ≤ 8 * zs.length → OwnsI B W aa ca all → B ≤ W.heap.size → x < 19 → all.length ≤ 1000 → Calls Tryd.prog 48 #[.agg #[.slice ao zs.length cap, .int .i64 (i : Nat), .int .i64 0], .slice aa all.length ca, .int .i64 (x : Nat)] W fun e w' => RepPost zs ao cap aa B (rpt zs (i, 0) all x) e W w') := fun W i aa ca all x B hW hi ho hB hx hal => l5Repeat_any ao cap zs i aa ca all x B W (hr.below hW) hz hzl hi ho hB hx hal
  have A0 : Hid (At zs k cf 0 (i, 0) (fun _ => True)) := ⟨fun h => absurd rfl h, fun _ => ⟨c0, hc0, hci, LWell.none c0 hc0, he, trivial⟩⟩
  clear hr hz he hc0 hci
  unfold LensPost
  unfold RepPost at HRP
  generalize hZ : zs.length = Z at *
  have HZL := hideM hZ
  clear hZ
  have BW : Hid (L5m ((w.alloc (.cells #[.slice ao Z cap, .int .i64 (i : Nat), .int .i64 0] 43)).alloc (.cells #[.slice none 0 0, .int .i64 0, .int .i64 0] 43)) w.heap.size (.slice ao Z cap) (i : Nat) 0) := (l5m_new w (.slice ao Z cap) (i : Nat) 0 43).below ((Below.refl _ _).alloc (Nat.le_refl _) _)
  have RW : Hid (L5m ((w.alloc (.cells #[.slice ao Z cap, .int .i64 (i : Nat), .int .i64 0] 43)).alloc (.cells #[.slice none 0 0, .int .i64 0, .int .i64 0] 43)) (w.heap.size + 1) (.slice none 0 0) 0 0) := by
    have h := l5m_new (w.alloc (.cells #[.slice ao Z cap, .int .i64 (i : Nat), .int .i64 0] 43)) (.slice none 0 0) 0 0 43
    rw [World.size_alloc] at h
    exact h
  have LW : Hid (Below w.heap.size w ((w.alloc (.cells #[.slice ao Z cap, .int .i64 (i : Nat), .int .i64 0] 43)).alloc (.cells #[.slice none 0 0, .int .i64 0, .int .i64 0] 43))) := ((Below.refl _ _).alloc (Nat.le_refl _) _).alloc (by simp) _
  go_enter Tryd.func20, Tryd.ntmps20
  go_upto_region 5 with fail
  generalize (w.alloc (.cells #[.slice ao Z cap, .int .i64 (i : Nat), .int .i64 0] 43)).alloc (.cells #[.slice none 0 0, .int .i64 0, .int .i64 0] 43) = W at *
  obtain ⟨i1, c1, F1, hT⟩ : ∃ (xi : Nat) (xc : Int) (xF : Nat), tk zs (i, 0) 5 = ((xi, xc), xF) := ⟨_, _, _, rfl⟩
  have hi1 : i1 ≤ 8 * Z := by
    have := tk_le (zs := zs) (r := (i, 0)) (n := 5) (by rw [HZL.out]; exact hi)
    rw [hT, HZL.out] at this
    exact this
  have hF1 : F1 < 32 := by
    have := tk_lt zs (i, 0) 5
    rw [hT] at this
    exact this
  have HF1 := hideM hT
  clear hT
  obtain ⟨b0, b1, b2, bf⟩ := BW.out
  have z1 := BW.out.lt
  clear bf
  go_wp2_with fail
  clear b0 b1 b2 z1
  refine Calls.mono (HTK.out _ i 5 0 LW.out hi (by decide)) ?_
  rintro e w1 ⟨rfl, hb⟩
  rw [HF1.out]
  dsimp only
  have B' := hideM (BW.out.below hb)
  have R' := hideM (RW.out.below hb)
  have L' := hideM (LW.out.trans (hb.mono LW.out.size))
  clear hb BW RW LW 
  have E := hideM (B'.out.set (.slice ao Z cap) (i1 : Nat) c1)
  have BW := hideM E.out.1
  have RW := hideM (R'.out.grown E.out.2 (by simp))
  have LW := hideM (L'.out.grown E.out.2 (by have := B'.out.lt; omega) (by intro k e; simp at e; omega))
  obtain ⟨b0, b1, b2, bf⟩ := B'.out
  have z1 := B'.out.lt
  have bf0 := bf 0
  have bf1 := bf 1
  have bf2 := bf 2
  clear bf
  go_upto_region 7 with fail
  clear b0 b1 b2 bf0 bf1 bf2 z1 E B' R' L' 
  generalize (((w1.setCell ⟨w.heap.size, 0, none⟩ (.slice ao Z cap)).setCell ⟨w.heap.size, 1, none⟩ (.int .i64 (i1 : Nat))).setCell ⟨w.heap.size, 2, none⟩ (.int .i64 c1)) = W at *
  obtain ⟨i2, c2, hB⟩ : ∃ (xi : Nat) (xc : Int), bdP (i1, c1) (decide (286 < (F1 : Int) + 257)) = (xi, xc) := ⟨_, _, rfl⟩
  have hi2 : i2 ≤ 8 * Z := by
    have := bdP_fst (i1, c1) (decide (286 < (F1 : Int) + 257))
    rw [hB] at this
    dsimp only at this
    omega
  have Hi2 := hideM hB
  clear hB
  obtain ⟨b0, b1, b2, bf⟩ := BW.out
  have z1 := BW.out.lt
  clear bf
  go_wp2_with fail
  clear b0 b1 b2 z1
  refine Calls.mono (l5Bad_any ao Z cap i1 c1 (decide (286 < (F1 : Int) + 257)) _) ?_
  rintro e w2 ⟨rfl, hb⟩
  rw [Hi2.out]
  dsimp only
  have B' := hideM (BW.out.below hb)
  have R' := hideM (RW.out.below hb)
  have L' := hideM (LW.out.trans (hb.mono LW.out.size))
  clear hb BW RW LW 
  have E := hideM (B'.out.set (.slice ao Z cap) (i2 : Nat) c2)
  have BW := hideM E.out.1
  have RW := hideM (R'.out.grown E.out.2 (by simp))
  have LW := hideM (L'.out.grown E.out.2 (by have := B'.out.lt; omega) (by intro k e; simp at e; omega))
  obtain ⟨b0, b1, b2, bf⟩ := B'.out
  have z1 := B'.out.lt
  have bf0 := bf 0
  have bf1 := bf 1
  have bf2 := bf 2
  clear bf
  go_upto_region 8 with fail
  clear b0 b1 b2 bf0 bf1 bf2 z1 E B' R' L' 
  generalize (((w2.setCell ⟨w.heap.size, 0, none⟩ (.slice ao Z cap)).setCell ⟨w.heap.size, 1, none⟩ (.int .i64 (i2 : Nat))).setCell ⟨w.heap.size, 2, none⟩ (.int .i64 c2)) = W at *
  have A1 := hideM (at_lit A0.out)
  rw [HF1.out] at A1
  dsimp only at A1
  rw [Hi2.out] at A1
  obtain ⟨i3, c3, F2, hT⟩ : ∃ (xi : Nat) (xc : Int) (xF : Nat), tk zs (i2, c2) 5 = ((xi, xc), xF) := ⟨_, _, _, rfl⟩
  have hi3 : i3 ≤ 8 * Z := by
    have := tk_le (zs := zs) (r := (i2, c2)) (n := 5) (by rw [HZL.out]; exact hi2)
    rw [hT, HZL.out] at this
    exact this
  have hF2 : F2 < 32 := by
    have := tk_lt zs (i2, c2) 5
    rw [hT] at this
    exact this
  have HF2 := hideM hT
  clear hT
  obtain ⟨b0, b1, b2, bf⟩ := BW.out
  have z1 := BW.out.lt
  clear bf
  go_wp2_with fail
  clear b0 b1 b2 z1
  refine Calls.mono (HTK.out _ i2 5 c2 LW.out hi2 (by decide)) ?_
  rintro e w3 ⟨rfl, hb⟩
  rw [HF2.out]
  dsimp only
  have B' := hideM (BW.out.below hb)
  have R' := hideM (RW.out.below hb)
  have L' := hideM (LW.out.trans (hb.mono LW.out.size))
  clear hb BW RW LW 
  have E := hideM (B'.out.set (.slice ao Z cap) (i3 : Nat) c3)
  have BW := hideM E.out.1
  have RW := hideM (R'.out.grown E.out.2 (by simp))
  have LW := hideM (L'.out.grown E.out.2 (by have := B'.out.lt; omega) (by intro k e; simp at e; omega))
  obtain ⟨b0, b1, b2, bf⟩ := B'.out
  have z1 := B'.out.lt
  have bf0 := bf 0
  have bf1 := bf 1
  have bf2 := bf 2
  clear bf
  go_upto_region 10 with fail
  clear b0 b1 b2 bf0 bf1 bf2 z1 E B' R' L' 
  generalize (((w3.setCell ⟨w.heap.size, 0, none⟩ (.slice ao Z cap)).setCell ⟨w.heap.size, 1, none⟩ (.int .i64 (i3 : Nat))).setCell ⟨w.heap.size, 2, none⟩ (.int .i64 c3)) = W at *
  obtain ⟨i4, c4, hB⟩ : ∃ (xi : Nat) (xc : Int), bdP (i3, c3) (decide (30 < (F2 : Int) + 1)) = (xi, xc) := ⟨_, _, rfl⟩
  have hi4 : i4 ≤ 8 * Z := by
    have := bdP_fst (i3, c3) (decide (30 < (F2 : Int) + 1))
    rw [hB] at this
    dsimp only at this
    omega
  have Hi4 := hideM hB
  clear hB
  obtain ⟨b0, b1, b2, bf⟩ := BW.out
  have z1 := BW.out.lt
  clear bf
  go_wp2_with fail
  clear b0 b1 b2 z1
  refine Calls.mono (l5Bad_any ao Z cap i3 c3 (decide (30 < (F2 : Int) + 1)) _) ?_
  rintro e w4 ⟨rfl, hb⟩
  rw [Hi4.out]
  dsimp only
  have B' := hideM (BW.out.below hb)
  have R' := hideM (RW.out.below hb)
  have L' := hideM (LW.out.trans (hb.mono LW.out.size))
  clear hb BW RW LW 
  have E := hideM (B'.out.set (.slice ao Z cap) (i4 : Nat) c4)
  have BW := hideM E.out.1
  have RW := hideM (R'.out.grown E.out.2 (by simp))
  have LW := hideM (L'.out.grown E.out.2 (by have := B'.out.lt; omega) (by intro k e; simp at e; omega))
  obtain ⟨b0, b1, b2, bf⟩ := B'.out
  have z1 := B'.out.lt
  have bf0 := bf 0
  have bf1 := bf 1
  have bf2 := bf 2
  clear bf
  go_upto_region 11 with fail
  clear b0 b1 b2 bf0 bf1 bf2 z1 E B' R' L' 
  generalize (((w4.setCell ⟨w.heap.size, 0, none⟩ (.slice ao Z cap)).setCell ⟨w.heap.size, 1, none⟩ (.int .i64 (i4 : Nat))).setCell ⟨w.heap.size, 2, none⟩ (.int .i64 c4)) = W at *
  have A2 := hideM (at_dist A1.out)
  rw [HF2.out] at A2
  dsimp only at A2
  rw [Hi4.out] at A2
  obtain ⟨i5, c5, F3, hT⟩ : ∃ (xi : Nat) (xc : Int) (xF : Nat), tk zs (i4, c4) 4 = ((xi, xc), xF) := ⟨_, _, _, rfl⟩
  have hi5 : i5 ≤ 8 * Z := by
    have := tk_le (zs := zs) (r := (i4, c4)) (n := 4) (by rw [HZL.out]; exact hi4)
    rw [hT, HZL.out] at this
    exact this
  have hF3 : F3 < 16 := by
    have := tk_lt zs (i4, c4) 4
    rw [hT] at this
    exact this
  have HF3 := hideM hT
  clear hT
  obtain ⟨b0, b1, b2, bf⟩ := BW.out
  have z1 := BW.out.lt
  clear bf
  go_wp2_with fail
  clear b0 b1 b2 z1
  refine Calls.mono (HTK.out _ i4 4 c4 LW.out hi4 (by decide)) ?_
  rintro e w5 ⟨rfl, hb⟩
  rw [HF3.out]
  dsimp only
  have B' := hideM (BW.out.below hb)
  have R' := hideM (RW.out.below hb)
  have L' := hideM (LW.out.trans (hb.mono LW.out.size))
  clear hb BW RW LW 
  have E := hideM (B'.out.set (.slice ao Z cap) (i5 : Nat) c5)
  have BW := hideM E.out.1
  have RW := hideM (R'.out.grown E.out.2 (by simp))
  have LW := hideM (L'.out.grown E.out.2 (by have := B'.out.lt; omega) (by intro k e; simp at e; omega))
  obtain ⟨b0, b1, b2, bf⟩ := B'.out
  have z1 := B'.out.lt
  have bf0 := bf 0
  have bf1 := bf 1
  have bf2 := bf 2
  clear bf
  go_upto_region 12 with fail
  clear b0 b1 b2 bf0 bf1 bf2 z1 E B' R' L' 
  generalize (((w5.setCell ⟨w.heap.size, 0, none⟩ (.slice ao Z cap)).setCell ⟨w.heap.size, 1, none⟩ (.int .i64 (i5 : Nat))).setCell ⟨w.heap.size, 2, none⟩ (.int .i64 c5)) = W at *
  have A3 := hideM (at_code A2.out)
  rw [HF3.out] at A3
  dsimp only at A3
  clear A0 A1 A2 HF1 HF2 HF3 Hi2 Hi4 hi hi1 hi2 hi3 hi4
  have SW := hideM (own19 W (w.heap.size + 2) (by have := RW.out.lt; omega))
  have b6 : Below W.heap.size W (W.alloc (.cells #[.int .i64 0, .int .i64 0, .int .i64 0, .int .i64 0, .int .i64 0, .int .i64 0, .int .i64 0, .int .i64 0, .int .i64 0, .int .i64 0, .int .i64 0, .int .i64 0, .int .i64 0, .int .i64 0, .int .i64 0, .int .i64 0, .int .i64 0, .int .i64 0, .int .i64 0] 2)) := (Below.refl _ _).alloc (Nat.le_refl _) _
  have B6 := hideM (BW.out.below b6)
  have R6 := hideM (RW.out.below b6)
  have L6 := hideM (LW.out.trans (b6.mono LW.out.size))
  have hgs : w.heap.size + 1 < W.heap.size := RW.out.lt
  clear b6 BW RW LW
  have BW := B6
  have RW := R6
  have LW := L6
  clear B6 R6 L6
  go_upto_region 13 with fail
  obtain ⟨gs, hgse⟩ : ∃ g, W.heap.size = g := ⟨_, rfl⟩
  rw [hgse] at SW hgs ⊢
  generalize W.alloc (.cells #[.int .i64 0, .int .i64 0, .int .i64 0, .int .i64 0, .int .i64 0, .int .i64 0, .int .i64 0, .int .i64 0, .int .i64 0, .int .i64 0, .int .i64 0, .int .i64 0, .int .i64 0, .int .i64 0, .int .i64 0, .int .i64 0, .int .i64 0, .int .i64 0, .int .i64 0] 2) = W6 at *
  clear hgse
  have A3' : Hid (At zs k cf 3 (i5, c5) (fun c => c.f 2 = (F1 : Int) + 257 ∧ c.f 3 = (F2 : Int) + 1 ∧ c.f 4 = ((F3 + 4 : Nat) : Int) ∧ c.f 24 = ((0 : Nat) : Int) ∧ cl19 c.f = List.replicate 19 0)) := A3.out.weak (fun c h => ⟨h.1, h.2.1, by rw [h.2.2.1]; omega, h.2.2.2.1, h.2.2.2.2⟩)
  clear A3
  go_upto_region 14 with fail
  go_loopw [8, 10] (fun x kk wr => ∃ (X : Int) (j i' : Nat) (c' : Int) (small : List Int), x = .int .i64 X ∧ kk = .int .i64 (j : Nat) ∧ j ≤ F3 + 4 ∧ i' ≤ 8 * Z ∧ Hid (small.length = 19) ∧ Hid (L5m wr w.heap.size (.slice ao Z cap) (i' : Nat) c') ∧ Hid (L5m wr (w.heap.size + 1) (.slice none 0 0) 0 0) ∧ Hid (Below w.heap.size w wr) ∧ Hid (OwnsI (w.heap.size + 2) wr (some ⟨gs, 0, none⟩) 19 small) ∧ Hid (j < F3 + 4 → At zs k cf 3 (i', c') (fun c => c.f 2 = (F1 : Int) + 257 ∧ c.f 3 = (F2 : Int) + 1 ∧ c.f 4 = ((F3 + 4 : Nat) : Int) ∧ c.f 24 = (j : Int) ∧ cl19 c.f = small)) ∧ Hid (j = F3 + 4 → At zs k cf 4 (bdP (i', c') (decide (hk small ≠ 1))) (fun c => c.f 2 = (F1 : Int) + 257 ∧ c.f 3 = (F2 : Int) + 1 ∧ c.tb = small ∧ c.lens = []))) (fun _ kk _ => F3 + 4 - (intOf kk).toNat)
  case atStart => exact ⟨0, 0, i5, c5, List.replicate 19 0, rfl, rfl, Nat.zero_le _, hi5, rfl, BW, RW, LW, SW, (fun _ => A3'.out), (fun h => by omega)⟩
  case round =>
    clear BW RW LW SW A3'
    obtain ⟨X, j, i', c', small, rfl, rfl, hj, hi', HSL, BW, RW, LW, SW, HA, HE⟩ := hrel
    by_cases hlt : j < F3 + 4
    · have hlti : ((j : Int) < (F3 : Int) + 4) := by omega
      obtain ⟨i6, c6, F4, hT⟩ : ∃ (xi : Nat) (xc : Int) (xF : Nat), tk zs (i', c') 3 = ((xi, xc), xF) := ⟨_, _, _, rfl⟩
      have hi6 : i6 ≤ 8 * Z := by
        have := tk_le (zs := zs) (r := (i', c')) (n := 3) (by rw [HZL.out]; exact hi')
        rw [hT, HZL.out] at this
        exact this
      have hF4 : F4 < 8 := by
        have := tk_lt zs (i', c') 3
        rw [hT] at this
        exact this
      have HF4 := hideM hT
      clear hT
      obtain ⟨b0, b1, b2, bf⟩ := BW.out
      have z1 := BW.out.lt
      clear bf
      go_wp2_with fail
      clear b0 b1 b2 z1
      refine Calls.mono (HTK.out _ i' 3 c' LW.out hi' (by decide)) ?_
      rintro e w6 ⟨rfl, hb⟩
      rw [HF4.out]
      dsimp only
      have B' := hideM (BW.out.below hb)
      have R' := hideM (RW.out.below hb)
      have L' := hideM (LW.out.trans (hb.mono LW.out.size))
      have SW' := hideM (SW.out.below hb)
      clear hb BW RW LW SW
      have E := hideM (B'.out.set (.slice ao Z cap) (i6 : Nat) c6)
      have BW := hideM E.out.1
      have RW := hideM (R'.out.grown E.out.2 (by simp))
      have LW := hideM (L'.out.grown E.out.2 (by have := B'.out.lt; omega) (by intro k e; simp at e; omega))
      have SW := hideM (SW'.out.grown E.out.2 (fun g e he => by have := SW'.out.base g he; simp at e; omega))
      obtain ⟨b0, b1, b2, bf⟩ := B'.out
      have z1 := B'.out.lt
      have bf0 := bf 0
      have bf1 := bf 1
      have bf2 := bf 2
      clear bf
      go_upto_region 17 with fail
      clear b0 b1 b2 bf0 bf1 bf2 z1 E B' R' L' SW'
      generalize (((w6.setCell ⟨w.heap.size, 0, none⟩ (.slice ao Z cap)).setCell ⟨w.heap.size, 1, none⟩ (.int .i64 (i6 : Nat))).setCell ⟨w.heap.size, 2, none⟩ (.int .i64 c6)) = W7 at *
      have hAT := at_len (HA.out hlt) hlt (by omega)
      rw [HF4.out] at hAT
      dsimp only at hAT
      have HAT := hideM hAT
      clear hAT HA HE HF4
      go_wp2_with fail
      refine Calls.mono (l5Order_any _) ?_
      rintro e w8 ⟨g, rfl, hcs, hg, hb⟩
      have hcg := hcs j (by omega)
      have ho := ord19_le j (by omega)
      obtain ⟨o, hoe⟩ : ∃ o, ord19 j = o := ⟨_, rfl⟩
      rw [hoe] at HAT hcg ho
      have B8 := hideM (BW.out.below hb)
      have R8 := hideM (RW.out.below hb)
      have L8 := hideM (LW.out.trans (hb.mono LW.out.size))
      have S8 := hideM (SW.out.below hb)
      have hgw : g < w8.heap.size := World.block_lt_of_cell? w8 _ hcg
      have hgsg : gs ≠ g := by have := SW.out.lies gs rfl; omega
      have hgw8 : gs < w8.heap.size := S8.out.lies gs rfl
      clear hcs hg hb hoe BW RW LW SW
      have hco := S8.out.cell (k := o) (by rw [HSL.out]; exact ho)
      have hfo := S8.out.free o
      have V9 := hideM (grownBy_setCell w8 ⟨gs, o, none⟩ (.int .i64 (F4 : Nat)))
      have B9 := hideM (B8.out.grown V9.out (by simp; omega))
      have R9 := hideM (R8.out.grown V9.out (by simp; omega))
      have L9 := hideM (L8.out.grown V9.out (by have := B8.out.lt; omega) (by intro k e; simp at e; omega))
      have S9 := hideM (S8.out.set o (F4 : Nat))
      have HSL9 : Hid ((small.set o (F4 : Nat)).length = 19) := by show _ = _; rw [List.length_set]; exact HSL.out
      clear V9 B8 R8 L8 S8
      go_wp2_with fail
      go_roundw
      case rel => exact ⟨(F4 : Nat), j + 1, i6, c6, small.set o (F4 : Nat), rfl, by go_num, by omega, hi6, HSL9, B9, R9, L9, S9, (fun h => HAT.out.1 h), (fun h => HAT.out.2 h)⟩
      case measure => simp [intOf]; omega
    · have hlti : ¬ ((j : Int) < (F3 : Int) + 4) := by omega
      have hlti2 : decide ((j : Int) < (F3 : Int) + 4) = false := decide_eq_false hlti
      have A4 := hideM (HE.out (by omega))
      clear HA HE hlt
      go_upto_region 18 with fail
      have HKS := hideM (fun V (hV : Row64 V (some ⟨gs, 0, none⟩) small) => skind_any (some ⟨gs, 0, none⟩) 19 small V hV (by rw [HSL.out]; decide))
      have HCS := hideM (fun V (hV : Row64 V (some ⟨gs, 0, none⟩) small) => scodes_any (some ⟨gs, 0, none⟩) 19 small V hV (by rw [HSL.out]; decide))
      rw [HSL.out] at HKS HCS
      have HOK : Hid (hk small = 1 → okC small = true) := hk_okC
      generalize hk small = H at *
      obtain ⟨i7, c7, hB7⟩ : ∃ (xi : Nat) (xc : Int), bdP (i', c') (decide (H ≠ 1)) = (xi, xc) := ⟨_, _, rfl⟩
      rw [hB7] at A4
      have hi7 : i7 ≤ 8 * Z := by
        have := bdP_fst (i', c') (decide (H ≠ 1))
        rw [hB7] at this
        dsimp only at this
        omega
      have HC7 : Hid (c7 = 0 → H = 1) := by
        intro h
        by_cases h1 : H = 1
        · exact h1
        · unfold bdP at hB7
          by_cases h2 : c' = 0
          · rw [if_pos ⟨h2, decide_eq_true h1⟩] at hB7
            injection hB7 with _ e
            omega
          · rw [if_neg (fun x => h2 x.1)] at hB7
            injection hB7 with _ e
            omega
      rw [← bne_dec] at hB7
      have HB7 := hideM hB7
      clear hB7
      go_cut [8] from 61 to 134 (fun x wx => x = .int .i64 X ∧ Hid (L5m wx w.heap.size (.slice ao Z cap) (i7 : Nat) c7) ∧ Hid (L5m wx (w.heap.size + 1) (.slice none 0 0) 0 0) ∧ Hid (Below w.heap.size w wx) ∧ Hid (OwnsI (w.heap.size + 2) wx (some ⟨gs, 0, none⟩) 19 small))
      case first =>
        obtain ⟨b0, b1, b2, bf⟩ := BW.out
        have z1 := BW.out.lt
        clear bf
        go_region_with (first | (go_at_call 45; refine Calls.mono (HKS.out _ (SW.out.row.below ((Below.refl _ _).drew))) ?_; rintro e wk ⟨rfl, q, rfl⟩) | (go_at_call 43; refine Calls.mono (l5Bad_any ao Z cap i' c' (H != 1) _) ?_; rintro e w9 ⟨rfl, hb9⟩; rw [HB7.out]; dsimp only; have hb9' : Below wr.heap.size wr w9 := (below_drewN' _ wr _).trans hb9; obtain ⟨_, _, _, bf9⟩ := BW.out.below hb9'; have := bf9 0; have := bf9 1; have := bf9 2; have := (BW.out.below hb9').lt))
        all_goals
          have E := hideM ((BW.out.below hb9').set (.slice ao Z cap) (i7 : Nat) c7)
          have R9 := hideM ((RW.out.below hb9').grown E.out.2 (by simp))
          have S9 := hideM ((SW.out.below hb9').grown E.out.2 (fun g e he => by have := SW.out.base g he; simp at e; omega))
          have L9 := hideM ((LW.out.trans (hb9'.mono LW.out.size)).grown E.out.2 (by have := (BW.out.below hb9').lt; omega) (by intro k e; simp at e; omega))
          clear b0 b1 b2 z1
          go_wp2_with fail
          go_meet
          exact ⟨rfl, E.out.1, R9, L9, S9⟩
      case rest =>
        clear BW RW LW SW
        obtain ⟨rfl, BW, RW, LW, SW⟩ := hcut
        have HC := hideM (HCS.out wc SW.out.row)
        go_wp2_with fail
        refine Calls.mono HC.out ?_
        rintro e w10 ⟨⟨co, cc, rfl, hRH⟩, hb⟩
        have hlo : w.heap.size + 2 ≤ wc.heap.size := by have := RW.out.lt; omega
        have CD := hideM (hRH.codesIn hlo (fun g hc _ => hc.lt))
        have B1 := hideM (BW.out.below hb)
        have R1 := hideM (RW.out.below hb)
        have L1 := hideM (LW.out.trans (hb.mono LW.out.size))
        have hQ0 : w.heap.size + 2 ≤ w10.heap.size := by have := hb.size; omega
        have HNC : Hid (H = 1 → okC small = true ∧ nC small = small.length) := fun h => ⟨HOK.out h, by unfold nC; rw [HOK.out h]; rfl⟩
        generalize nC small = N1 at *
        clear hRH hb BW RW LW SW HC HKS HCS HOK HB7 hlo
        have b11 : Below w10.heap.size w10 (w10.alloc (.cells #[] 2)) := (Below.refl _ _).alloc (Nat.le_refl _) _
        have OW := hideM (ownI0 w10 w10.heap.size (Nat.le_refl _))
        have BW := hideM (B1.out.below b11)
        have RW := hideM (R1.out.below b11)
        have LW := hideM (L1.out.trans (b11.mono L1.out.size))
        have CD1 := hideM (CD.out.below b11)
        have hQw : w10.heap.size ≤ (w10.alloc (.cells #[] 2)).heap.size := b11.size
        clear b11 B1 R1 L1 CD
        have CD := CD1
        clear CD1
        go_upto_region 21 with fail
        obtain ⟨Q, hQ⟩ : ∃ Q, w10.heap.size = Q := ⟨_, rfl⟩
        rw [hQ] at OW CD hQ0 hQw ⊢
        generalize w10.alloc (.cells #[] 2) = W11 at *
        clear hQ
        have IN := hideM (In2.of_at A4.out (by omega))
        have HNI : Hid (((F1 : Int) + 257 + ((F2 : Int) + 1)).toNat = F1 + F2 + 258) := by show _ = _; omega
        clear A4
        go_loopg [8, 12] (mu2 (F1 + F2 + 258) (i7, c7) []) (fun n x v wr => ∃ (X : Int) (i' : Nat) (c' : Int) (aa : Option Addr) (ca : Nat) (all : List Int), x = .int .i64 X ∧ v = .slice aa all.length ca ∧ Hid (mu2 (F1 + F2 + 258) (i', c') all = n) ∧ i' ≤ 8 * Z ∧ Hid (c' = 0 → H = 1) ∧ all.length ≤ 800 ∧ Hid (L5m wr w.heap.size (.slice ao Z cap) (i' : Nat) c') ∧ Hid (L5m wr (w.heap.size + 1) (.slice none 0 0) 0 0) ∧ Hid (Below w.heap.size w wr) ∧ Hid (OwnsI Q wr aa ca all) ∧ Q ≤ wr.heap.size ∧ Hid (CodesIn (w.heap.size + 2) Q wr co N1 (code small)) ∧ Hid (In2 zs k cf ((F1 : Int) + 257) ((F2 : Int) + 1) small (i', c') all))
        case atStart => exact ⟨X, i7, c7, _, 0, [], rfl, rfl, rfl, hi7, HC7, by simp, BW, RW, LW, OW, hQw, CD, IN⟩
        case round =>
          clear BW RW LW OW CD IN HC7 hQw hi7
          obtain ⟨X1, i', c', aa, ca, all, rfl, rfl, HMU, hi', HC7, hal, BW, RW, LW, OW, hQw, CD, IN⟩ := hrel
          by_cases hc : c' = 0
          · subst hc
            by_cases hl : all.length < F1 + F2 + 258
            · have hli : ((all.length : Int) < (F1 : Int) + 257 + ((F2 : Int) + 1)) := by omega
              have IN1 := hideM (round_in2 IN.out rfl hli)
              have MU1 := hideM (mu2_less (zs := zs) (tb := small) (N := F1 + F2 + 258) (r := (i', 0)) (all := all) rfl hl)
              rw [HNI.out] at IN1
              rw [HMU.out] at MU1
              unfold rnd at IN1 MU1
              obtain ⟨i8, c8, x8, hS⟩ : ∃ (xi : Nat) (xc : Int) (xx : Nat), sy zs (i', 0) small = ((xi, xc), xx) := ⟨_, _, _, rfl⟩
              have hi8 : i8 ≤ 8 * Z := by
                have := sy_le (zs := zs) (tb := small) (r := (i', 0)) (by rw [HZL.out]; exact hi')
                rw [hS, HZL.out] at this
                exact this
              have hx8 : c8 = 0 → x8 < 19 := by
                intro h
                have := sy_sym (zs := zs) (tb := small) (r := (i', 0)) rfl (by rw [hS]; exact h)
                rw [hS, HSL.out] at this
                exact this
              rw [hS] at IN1 MU1
              dsimp only at IN1 MU1
              have HS8 := hideM hS
              have hH1 := HC7.out rfl
              have HCD := hideM (show okC small = true ∧ N1 = small.length ∧ Reads wr co small.length (code small) from by
                obtain ⟨o1, o2⟩ := HNC.out hH1
                exact ⟨o1, o2, o2 ▸ CD.out.reads⟩)
              clear hS HMU IN
              obtain ⟨b0, b1, b2, bf⟩ := BW.out
              have z1 := BW.out.lt
              clear bf
              go_wp2_with fail
              clear b0 b1 b2 z1
              refine Calls.mono (HSY.out _ i' 0 small co N1 cc LW.out hi' (fun _ => HCD.out)) ?_
              rintro e w12 ⟨rfl, hb⟩
              rw [HS8.out]
              dsimp only
              have B' := hideM (BW.out.below hb)
              have R' := hideM (RW.out.below hb)
              have L' := hideM (LW.out.trans (hb.mono LW.out.size))
              have hQ1 : Q ≤ w12.heap.size := by have := hb.size; omega
              have OW' := hideM (OW.out.below hb)
              have CD' := hideM (CD.out.below hb)
              clear hb BW RW LW OW CD
              have E := hideM (B'.out.set (.slice ao Z cap) (i8 : Nat) c8)
              have BW := hideM E.out.1
              have RW := hideM (R'.out.grown E.out.2 (by simp))
              have LW := hideM (L'.out.grown E.out.2 (by have := B'.out.lt; omega) (by intro k e; simp at e; omega))
              have OW := hideM (OW'.out.grown E.out.2 (fun g e he => by have := OW'.out.base g he; simp at e; omega))
              have CD := hideM (CD'.out.grown E.out.2 (fun g e => by simp at e; omega))
              have hQ12 : Q ≤ (((w12.setCell ⟨w.heap.size, 0, none⟩ (.slice ao Z cap)).setCell ⟨w.heap.size, 1, none⟩ (.int .i64 (i8 : Nat))).setCell ⟨w.heap.size, 2, none⟩ (.int .i64 c8)).heap.size := Nat.le_trans hQ1 E.out.2.size
              clear hQ1
              obtain ⟨b0, b1, b2, bf⟩ := B'.out
              have z1 := B'.out.lt
              have bf0 := bf 0
              have bf1 := bf 1
              have bf2 := bf 2
              clear bf
              go_upto_region 23 with fail
              clear b0 b1 b2 bf0 bf1 bf2 z1 E B' R' L' OW' CD'
              generalize (((w12.setCell ⟨w.heap.size, 0, none⟩ (.slice ao Z cap)).setCell ⟨w.heap.size, 1, none⟩ (.int .i64 (i8 : Nat))).setCell ⟨w.heap.size, 2, none⟩ (.int .i64 c8)) = W12 at *
              clear HS8 HCD
              by_cases hc8 : c8 = 0
              · subst hc8
                rw [if_pos rfl] at IN1 MU1
                obtain ⟨i9, c9, all2, hR⟩ : ∃ (xi : Nat) (xc : Int) (xl : List Int), rpt zs (i8, 0) all x8 = ((xi, xc), xl) := ⟨_, _, _, rfl⟩
                have hi9 : i9 ≤ 8 * Z := by
                  have := rpt_le (zs := zs) (all := all) (r := (i8, 0)) (x := x8) (by rw [HZL.out]; exact hi8)
                  rw [hR, HZL.out] at this
                  exact this
                have hl9 : all2.length ≤ 800 := by
                  have := rpt_len zs all (i8, 0) x8
                  rw [hR] at this
                  dsimp only at this
                  omega
                rw [hR] at IN1 MU1
                dsimp only at IN1 MU1
                have HR9 := hideM hR
                clear hR
                obtain ⟨b0, b1, b2, bf⟩ := BW.out
                have z1 := BW.out.lt
                clear bf
                have hx9 : x8 < 19 := hx8 rfl
                clear hx8
                go_wp2_with fail
                clear b0 b1 b2 z1
                refine Calls.mono (HRP.out _ i8 aa ca all x8 Q LW.out hi8 OW.out hQ12 hx9 (by omega)) ?_
                rintro e w13 ⟨aa2, ca2, rfl, hO2, hb, hK2⟩
                rw [HR9.out] at hO2 ⊢
                dsimp only at hO2 ⊢
                have OW' := hideM hO2
                clear hO2 hK2
                have B' := hideM (BW.out.grown hb (by intro e; have := OW.out.base _ e.symm; omega))
                have R' := hideM (RW.out.grown hb (by intro e; have := OW.out.base _ e.symm; omega))
                have L' := hideM (LW.out.grown hb (by have := BW.out.lt; omega) (by intro k e; have := OW.out.base k e; omega))
                have hQ1 : Q ≤ w13.heap.size := by have := hb.size; omega
                have CD' := hideM (CD.out.grown hb (fun k e => by have := OW.out.base k e; omega))
                clear hb BW RW LW CD OW
                have E := hideM (B'.out.set (.slice ao Z cap) (i9 : Nat) c9)
                have BW := hideM E.out.1
                have RW := hideM (R'.out.grown E.out.2 (by simp))
                have LW := hideM (L'.out.grown E.out.2 (by have := B'.out.lt; omega) (by intro k e; simp at e; omega))
                have CD := hideM (CD'.out.grown E.out.2 (fun g e => by simp at e; omega))
                have OW := hideM (OW'.out.grown E.out.2 (fun g e he => by have := OW'.out.base g he; simp at e; omega))
                have hQ13 : Q ≤ (((w13.setCell ⟨w.heap.size, 0, none⟩ (.slice ao Z cap)).setCell ⟨w.heap.size, 1, none⟩ (.int .i64 (i9 : Nat))).setCell ⟨w.heap.size, 2, none⟩ (.int .i64 c9)).heap.size := Nat.le_trans hQ1 E.out.2.size
                clear hQ1
                obtain ⟨b0, b1, b2, bf⟩ := B'.out
                have z1 := B'.out.lt
                have bf0 := bf 0
                have bf1 := bf 1
                have bf2 := bf 2
                clear bf
                go_upto_region 25 with fail
                clear b0 b1 b2 bf0 bf1 bf2 z1 E B' R' L' CD' OW'
                generalize (((w13.setCell ⟨w.heap.size, 0, none⟩ (.slice ao Z cap)).setCell ⟨w.heap.size, 1, none⟩ (.int .i64 (i9 : Nat))).setCell ⟨w.heap.size, 2, none⟩ (.int .i64 c9)) = W13 at *
                obtain ⟨fb, hfb⟩ : ∃ fb : Bool, decide (F1 + F2 + 258 < all2.length) = fb := ⟨_, rfl⟩
                rw [hfb] at IN1 MU1
                have hfi : decide ((F1 : Int) + 257 + ((F2 : Int) + 1) < (all2.length : Int)) = fb := by rw [← hfb]; apply decide_eq_decide.2; omega
                clear hfb
                obtain ⟨iA, cA, hB⟩ : ∃ (xi : Nat) (xc : Int), bdP (i9, c9) fb = (xi, xc) := ⟨_, _, rfl⟩
                have hiA : iA ≤ 8 * Z := by
                  have := bdP_fst (i9, c9) fb
                  rw [hB] at this
                  dsimp only at this
                  omega
                rw [hB] at IN1 MU1
                have HBA := hideM hB
                clear hB
                obtain ⟨b0, b1, b2, bf⟩ := BW.out
                have z1 := BW.out.lt
                clear bf
                go_wp2_with fail
                clear b0 b1 b2 z1
                refine Calls.mono (l5Bad_any ao Z cap i9 c9 fb _) ?_
                rintro e w14 ⟨rfl, hb⟩
                rw [HBA.out]
                dsimp only
                have B' := hideM (BW.out.below hb)
                have R' := hideM (RW.out.below hb)
                have L' := hideM (LW.out.trans (hb.mono LW.out.size))
                have hQ1 : Q ≤ w14.heap.size := by have := hb.size; omega
                have OW' := hideM (OW.out.below hb)
                have CD' := hideM (CD.out.below hb)
                clear hb BW RW LW OW CD
                have E := hideM (B'.out.set (.slice ao Z cap) (iA : Nat) cA)
                have BW := hideM E.out.1
                have RW := hideM (R'.out.grown E.out.2 (by simp))
                have LW := hideM (L'.out.grown E.out.2 (by have := B'.out.lt; omega) (by intro k e; simp at e; omega))
                have OW := hideM (OW'.out.grown E.out.2 (fun g e he => by have := OW'.out.base g he; simp at e; omega))
                have CD := hideM (CD'.out.grown E.out.2 (fun g e => by simp at e; omega))
                have hQ14 : Q ≤ (((w14.setCell ⟨w.heap.size, 0, none⟩ (.slice ao Z cap)).setCell ⟨w.heap.size, 1, none⟩ (.int .i64 (iA : Nat))).setCell ⟨w.heap.size, 2, none⟩ (.int .i64 cA)).heap.size := Nat.le_trans hQ1 E.out.2.size
                clear hQ1
                obtain ⟨b0, b1, b2, bf⟩ := B'.out
                have z1 := B'.out.lt
                have bf0 := bf 0
                have bf1 := bf 1
                have bf2 := bf 2
                clear bf
                go_wp2_with fail
                clear b0 b1 b2 bf0 bf1 bf2 z1 E B' R' L' OW' CD'
                generalize (((w14.setCell ⟨w.heap.size, 0, none⟩ (.slice ao Z cap)).setCell ⟨w.heap.size, 1, none⟩ (.int .i64 (iA : Nat))).setCell ⟨w.heap.size, 2, none⟩ (.int .i64 cA)) = W14 at *
                go_roundg (mu2 (F1 + F2 + 258) (iA, cA) all2)
                case measure => exact MU1.out
                case rel => exact ⟨(x8 : Nat), iA, cA, aa2, ca2, all2, rfl, rfl, rfl, hiA, (fun _ => hH1), hl9, BW, RW, LW, OW, hQ14, CD, IN1⟩
              · rw [if_neg hc8] at IN1 MU1
                dsimp only at IN1 MU1
                have hc8b : (c8 == 0) = false := by simp [hc8]
                obtain ⟨b0, b1, b2, bf⟩ := BW.out
                have z1 := BW.out.lt
                clear bf hc8 hx8
                go_wp2_with fail
                clear b0 b1 b2 z1
                go_roundg (mu2 (F1 + F2 + 258) (i8, c8) all)
                case measure => exact MU1.out
                case rel => exact ⟨(x8 : Nat), i8, c8, aa, ca, all, rfl, rfl, rfl, hi8, (fun _ => hH1), hal, BW, RW, LW, OW, hQ12, CD, IN1⟩
            · have hle := IN.out.le rfl
              have hlen : all.length = F1 + F2 + 258 := by omega
              have hEQ := IN.out.eq rfl (by omega)
              obtain ⟨l, hl5⟩ : ∃ l : Nat, F1 + 257 = l := ⟨_, rfl⟩
              obtain ⟨d, hd5⟩ : ∃ d : Nat, F2 + 1 = d := ⟨_, rfl⟩
              have e5 : (F1 : Int) + 257 = (l : Int) := by omega
              have e6 : (F2 : Int) + 1 = (d : Int) := by omega
              rw [e5, Int.toNat_natCast] at hEQ
              dsimp only at hEQ
              have HEQ := hideM hEQ
              clear hEQ hle IN HMU HC7 CD
              rw [e5, e6]
              have hld : all.length = l + d := by omega
              have hl257 : 257 ≤ l := by omega
              have hd1 : 1 ≤ d := by omega
              have hl288 : l ≤ 400 := by omega
              have hd30 : d ≤ 400 := by omega
              obtain ⟨g, rfl, hgQ, hgw, hgc⟩ := OW.out.at (by omega)
              have HRA : Hid (Row64 wr (some ⟨g, 0, none⟩) (all.take l)) := OW.out.row.takeN l
              have HRB : Hid (Row64 wr (some ⟨g, l, none⟩) (all.drop l)) := OW.out.row.dropN l
              have hta : (all.take l).length = l := by rw [List.length_take]; omega
              have htb : (all.drop l).length = all.length - l := List.length_drop
              have HKA := hideM (fun V (hV : Row64 V (some ⟨g, 0, none⟩) (all.take l)) => l5IsKind_any (some ⟨g, 0, none⟩) ca (all.take l) 1 4 4 V hV (by omega))
              have HKB := hideM (fun V (hV : Row64 V (some ⟨g, l, none⟩) (all.drop l)) => l5IsKind_any (some ⟨g, l, none⟩) (ca - l) (all.drop l) 1 4 5 V hV (by omega))
              rw [hta] at HKA
              rw [htb] at HKB
              have hcx := OW.out.cell (k := 256) (by omega)
              obtain ⟨x, hx⟩ : ∃ x, all.getD 256 0 = x := ⟨_, rfl⟩
              rw [hx] at hcx
              have HCH : Hid (chk (all.take l) (all.drop l) ↔ x ≠ 0 ∧ decide (hk (all.take l) = 1 ∨ hk (all.take l) = 4 ∨ hk (all.take l) = 4) = true ∧ decide (hk (all.drop l) = 1 ∨ hk (all.drop l) = 4 ∨ hk (all.drop l) = 5) = true) := by
                show _ ↔ _
                unfold chk
                rw [show (all.take l).getD 256 0 = x from by rw [← hx, List.getD_eq_getElem?_getD, List.getD_eq_getElem?_getD, List.getElem?_take_of_lt (by omega)], decide_eq_true_iff, decide_eq_true_iff, or_self_iff]
              generalize decide (hk (all.take l) = 1 ∨ hk (all.take l) = 4 ∨ hk (all.take l) = 4) = A at *
              generalize decide (hk (all.drop l) = 1 ∨ hk (all.drop l) = 4 ∨ hk (all.drop l) = 5) = Bv at *
              obtain ⟨C3, hC3⟩ : ∃ C3 : Int, (if x ≠ 0 ∧ A = true ∧ Bv = true then 0 else 3) = C3 := ⟨_, rfl⟩
              have HFIN : Hid ((k = 1 → C3 = 0 ∧ i' = cf.i ∧ cf.lens = all ∧ (cf.f 2).toNat = l) ∧ (k ≠ 1 → C3 = k)) := by
                by_cases hch : x ≠ 0 ∧ A = true ∧ Bv = true
                · rw [if_pos hch] at hC3
                  obtain ⟨k1, k2, k3, k4⟩ := HEQ.out.1 (HCH.out.2 hch)
                  exact ⟨fun _ => ⟨hC3.symm, k2.symm, k3, by rw [k4]; omega⟩, fun h => absurd k1 h⟩
                · rw [if_neg hch] at hC3
                  have k3 := HEQ.out.2 (fun h => hch (HCH.out.1 h))
                  exact ⟨fun h => by omega, fun _ => by omega⟩
              have HT1 := hideM hta
              have HT2 := hideM htb
              have h4 : ¬ ca = l := by omega
              have h5 : ¬ l = ca := by omega
              have h6 : l ≤ ca := by omega
              have h7 : l ≤ all.length := by omega
              have h8 : ((l : Int) ≤ (all.length : Int)) := by omega
              have h9 : ((l : Int) ≤ (ca : Int)) := by omega
              have h10 : ¬ ((all.length : Int) < (l : Int) + (d : Int)) := by omega
              have h10d : decide ((all.length : Int) < (l : Int) + (d : Int)) = false := decide_eq_false h10
              have h11 : (256 : Int) < (l : Int) := by omega
              have hgp : ¬ g = w.heap.size := by omega
              have hgp2 : ¬ g = w.heap.size + 1 := by omega
              clear hx hta htb hlen hl5 hd5 e5 e6 hl OW HCH HEQ hld
              generalize all.length = n at *
              clear HTK HSY HRP HNC HNI HSL
              obtain ⟨b0, b1, b2, bf⟩ := BW.out
              have z1 := BW.out.lt
              clear bf
              go_upto_region 28 with fail
              go_cut [13] from 15 to 134 (fun v wx => v = .slice (some ⟨g, 0, none⟩) l ca ∧ wx = wr)
              case first =>
                go_wp2_with fail
                go_meet
                exact ⟨rfl, rfl⟩
              case rest =>
               obtain ⟨rfl, hwx⟩ := hcut
               rw [hwx]
               clear hwx
               go_upto_region 30 with fail
               go_cut [13, 14] from 116 to 134 (fun v v' wx => v = .slice (some ⟨g, 0, none⟩) l ca ∧ v' = .slice (some ⟨g, l, none⟩) (n - l) (ca - l) ∧ Hid (L5m wx w.heap.size (.slice ao Z cap) (i' : Nat) C3) ∧ Hid (L5m wx (w.heap.size + 1) (.slice none 0 0) 0 0) ∧ Hid (Below w.heap.size w wx) ∧ Hid (Row64 wx (some ⟨g, 0, none⟩) (all.take l)) ∧ Hid (Row64 wx (some ⟨g, l, none⟩) (all.drop l)))
               case first =>
                 by_cases hx0 : x = 0
                 · have hxb : (x == 0) = true := by simp [hx0]
                   have HC3 : Hid (3 = C3) := by show _ = _; rw [← hC3, if_neg (fun h => h.1 hx0)]
                   clear hx0 hC3
                   first | go_region_with (first | (go_at_call 43; refine Calls.mono (l5Bad_any ao Z cap i' 0 true _) ?_; rintro e w9 ⟨rfl, hb9⟩; rw [show bdP (i', 0) true = (i', 3) from rfl]; dsimp only; have hb9' : Below wr.heap.size wr w9 := ((Below.refl _ _).drew).trans hb9; obtain ⟨_, _, _, bf9⟩ := BW.out.below hb9'; have := bf9 0; have := bf9 1; have := bf9 2; have := (BW.out.below hb9').lt)) | fail
                   all_goals
                     have E := hideM ((BW.out.below hb9').set (.slice ao Z cap) (i' : Nat) 3)
                     have R9 := hideM ((RW.out.below hb9').grown E.out.2 (by simp))
                     have L9 := hideM ((LW.out.trans (hb9'.mono LW.out.size)).grown E.out.2 (by have := (BW.out.below hb9').lt; omega) (by intro k e; simp at e; omega))
                     have RA9 := hideM ((HRA.out.below hb9').grownL E.out.2 (by simp; omega))
                     have RB9 := hideM ((HRB.out.below hb9').grownL E.out.2 (by simp; omega))
                     go_wp2_with fail
                     go_meet
                     exact ⟨rfl, rfl, HC3.out ▸ E.out.1, R9, L9, RA9, RB9⟩
                 · have hxb : (x == 0) = false := by simp [hx0]
                   cases A with
                   | false =>
                     have HC3 : Hid (3 = C3) := by show _ = _; rw [← hC3, if_neg (fun h => by cases h.2.1)]
                     clear hx0 hC3
                     first | go_region_with (first | (go_at_call 49; (with_reducible refine Calls.mono (HKA.out _ ?_) ?_); exact (HRA.out.below ((Below.refl _ _).drew)); rintro e wk1 ⟨rfl, hbk1⟩; have hbt1 : Below wr.heap.size wr wk1 := ((Below.refl _ _).drew).trans hbk1; obtain ⟨_, _, _, _⟩ := BW.out.below hbt1; have := (BW.out.below hbt1).lt) | (go_at_call 43; refine Calls.mono (l5Bad_any ao Z cap i' 0 true _) ?_; rintro e w9 ⟨rfl, hb9⟩; rw [show bdP (i', 0) true = (i', 3) from rfl]; dsimp only; have hb9' : Below wr.heap.size wr w9 := hbt1.trans (hb9.mono hbt1.size); obtain ⟨_, _, _, bf9⟩ := BW.out.below hb9'; have := bf9 0; have := bf9 1; have := bf9 2; have := (BW.out.below hb9').lt)) | fail
                     all_goals
                       have E := hideM ((BW.out.below hb9').set (.slice ao Z cap) (i' : Nat) 3)
                       have R9 := hideM ((RW.out.below hb9').grown E.out.2 (by simp))
                       have L9 := hideM ((LW.out.trans (hb9'.mono LW.out.size)).grown E.out.2 (by have := (BW.out.below hb9').lt; omega) (by intro k e; simp at e; omega))
                       have RA9 := hideM ((HRA.out.below hb9').grownL E.out.2 (by simp; omega))
                       have RB9 := hideM ((HRB.out.below hb9').grownL E.out.2 (by simp; omega))
                       go_wp2_with fail
                       go_meet
                       exact ⟨rfl, rfl, HC3.out ▸ E.out.1, R9, L9, RA9, RB9⟩
                   | true =>
                     cases Bv with
                     | false =>
                       have HC3 : Hid (3 = C3) := by show _ = _; rw [← hC3, if_neg (fun h => by cases h.2.2)]
                       clear hx0 hC3
                       go_region_with (first | (go_at_call 49; (with_reducible refine Calls.mono (HKA.out _ ?_) ?_); exact (HRA.out.below ((Below.refl _ _).drew)); rintro e wk1 ⟨rfl, hbk1⟩; have hbt1 : Below wr.heap.size wr wk1 := ((Below.refl _ _).drew).trans hbk1; obtain ⟨_, _, _, _⟩ := BW.out.below hbt1; have := (BW.out.below hbt1).lt) | (go_at_call 49; (with_reducible refine Calls.mono (HKB.out _ ?_) ?_); exact (HRB.out.below hbt1); rintro e wk2 ⟨rfl, hbk2⟩; have hbt2 : Below wr.heap.size wr wk2 := hbt1.trans (hbk2.mono hbt1.size); obtain ⟨_, _, _, _⟩ := BW.out.below hbt2; have := (BW.out.below hbt2).lt) | (go_at_call 43; refine Calls.mono (l5Bad_any ao Z cap i' 0 true _) ?_; rintro e w9 ⟨rfl, hb9⟩; rw [show bdP (i', 0) true = (i', 3) from rfl]; dsimp only; have hb9' : Below wr.heap.size wr w9 := hbt2.trans (hb9.mono hbt2.size); obtain ⟨_, _, _, bf9⟩ := BW.out.below hb9'; have := bf9 0; have := bf9 1; have := bf9 2; have := (BW.out.below hb9').lt))
                       all_goals
                         have E := hideM ((BW.out.below hb9').set (.slice ao Z cap) (i' : Nat) 3)
                         have R9 := hideM ((RW.out.below hb9').grown E.out.2 (by simp))
                         have L9 := hideM ((LW.out.trans (hb9'.mono LW.out.size)).grown E.out.2 (by have := (BW.out.below hb9').lt; omega) (by intro k e; simp at e; omega))
                         have RA9 := hideM ((HRA.out.below hb9').grownL E.out.2 (by simp; omega))
                         have RB9 := hideM ((HRB.out.below hb9').grownL E.out.2 (by simp; omega))
                         go_wp2_with fail
                         go_meet
                         exact ⟨rfl, rfl, HC3.out ▸ E.out.1, R9, L9, RA9, RB9⟩
                     | true =>
                       have HC3 : Hid (0 = C3) := by show _ = _; rw [← hC3, if_pos ⟨hx0, rfl, rfl⟩]
                       clear hx0 hC3
                       go_region_with (first | (go_at_call 49; (with_reducible refine Calls.mono (HKA.out _ ?_) ?_); exact (HRA.out.below ((Below.refl _ _).drew)); rintro e wk1 ⟨rfl, hbk1⟩; have hbt1 : Below wr.heap.size wr wk1 := ((Below.refl _ _).drew).trans hbk1; obtain ⟨_, _, _, _⟩ := BW.out.below hbt1; have := (BW.out.below hbt1).lt) | (go_at_call 49; (with_reducible refine Calls.mono (HKB.out _ ?_) ?_); exact (HRB.out.below hbt1); rintro e wk2 ⟨rfl, hbk2⟩; have hbt2 : Below wr.heap.size wr wk2 := hbt1.trans (hbk2.mono hbt1.size); obtain ⟨_, _, _, _⟩ := BW.out.below hbt2; have := (BW.out.below hbt2).lt) | (go_at_call 43; refine Calls.mono (l5Bad_any ao Z cap i' 0 false _) ?_; rintro e w9 ⟨rfl, hb9⟩; rw [show bdP (i', 0) false = (i', 0) from rfl]; dsimp only; have hb9' : Below wr.heap.size wr w9 := hbt2.trans (hb9.mono hbt2.size); obtain ⟨_, _, _, bf9⟩ := BW.out.below hb9'; have := bf9 0; have := bf9 1; have := bf9 2; have := (BW.out.below hb9').lt))
                       all_goals
                         have E := hideM ((BW.out.below hb9').set (.slice ao Z cap) (i' : Nat) 0)
                         have R9 := hideM ((RW.out.below hb9').grown E.out.2 (by simp))
                         have L9 := hideM ((LW.out.trans (hb9'.mono LW.out.size)).grown E.out.2 (by have := (BW.out.below hb9').lt; omega) (by intro k e; simp at e; omega))
                         have RA9 := hideM ((HRA.out.below hb9').grownL E.out.2 (by simp; omega))
                         have RB9 := hideM ((HRB.out.below hb9').grownL E.out.2 (by simp; omega))
                         go_wp2_with fail
                         go_meet
                         exact ⟨rfl, rfl, HC3.out ▸ E.out.1, R9, L9, RA9, RB9⟩
               case rest =>
                 clear BW RW LW b0 b1 b2 z1 hC3 HKA HKB hcx
                 obtain ⟨rfl, rfl, BW, RW, LW, RA, RB⟩ := hcut
                 clear h4 h5 h6 h7 h8 h9 h10 h10d h11 hgc
                 generalize n - l = n2 at *
                 generalize ca - l = c2 at *
                 have hgpp := hideM (And.intro hgp hgp2)
                 obtain ⟨b0, b1, b2, bf⟩ := BW.out
                 have z1 := BW.out.lt
                 obtain ⟨r0, r1, r2, rf⟩ := RW.out
                 have rf0 := rf 0
                 have rf1 := rf 1
                 have rf2 := rf 2
                 have z2 := RW.out.lt
                 clear bf rf
                 have E := hideM (RW.out.set (.slice ao Z cap) (i' : Nat) C3)
                 have L16 := hideM (LW.out.grown E.out.2 (by have := RW.out.lt; omega) (by intro k e; simp at e; omega))
                 have RA2 := hideM (RA.out.grownL E.out.2 (by simp; omega))
                 have RB2 := hideM (RB.out.grownL E.out.2 (by simp; omega))
                 go_wp2_with fail
                 obtain ⟨⟨y0, y1, y2, _⟩, _⟩ := E.out
                 exact bodyPost_ret (v := .tuple #[.agg #[.slice ao Z cap, .int .i64 (i' : Nat), .int .i64 C3], .slice (some ⟨g, 0, none⟩) l ca, .slice (some ⟨g, l, none⟩) n2 c2]) (by simp [results, Tryd.results20, go_sem, y0, y1, y2]) rfl ⟨i', C3, _, l, ca, _, _, _, rfl, (fun h => by
                   obtain ⟨k1, k2, k3, k4⟩ := HFIN.out.1 h
                   rw [k3, k4]
                   exact ⟨k1, k2, HT1.out.symm, HT2.out.symm, RA2.out, RB2.out⟩), HFIN.out.2, L16.out⟩
          · obtain ⟨hck, hk1⟩ := IN.out.no hc
            dsimp only at hck
            have hcb : (c' == 0) = false := by simp [hc]
            have hcn : (c' != 0) = true := by simp [hc]
            have HFIN : Hid ((k = 1 → c' = 0) ∧ (k ≠ 1 → c' = k)) := ⟨fun h => absurd h hk1, fun _ => hck⟩
            have HK1 := hideM hk1
            clear hck hk1 hc IN CD OW HC7 HMU
            obtain ⟨b0, b1, b2, bf⟩ := BW.out
            have z1 := BW.out.lt
            obtain ⟨r0, r1, r2, rf⟩ := RW.out
            have rf0 := rf 0
            have rf1 := rf 1
            have rf2 := rf 2
            have z2 := RW.out.lt
            clear bf rf
            have E := hideM (RW.out.set (.slice ao Z cap) (i' : Nat) c')
            have b15 := fun (V : World) => ((Below.refl V.heap.size V).alloc (Nat.le_refl _) (.cells #[] 2)).alloc (by simp) (.cells #[] 2)
            have Y := hideM (E.out.1.below (b15 _))
            have L15 := hideM (LW.out.grown E.out.2 (by have := RW.out.lt; omega) (by intro k e; simp at e; omega))
            have L16 := hideM (L15.out.trans ((b15 _).mono L15.out.size))
            clear b15
            go_wp2_with fail
            obtain ⟨y0, y1, y2, _⟩ := Y.out
            exact bodyPost_ret (v := .tuple #[.agg #[.slice ao Z cap, .int .i64 (i' : Nat), .int .i64 c'], .slice (some ⟨wr.heap.size, 0, none⟩) 0 0, .slice (some ⟨wr.heap.size + 1, 0, none⟩) 0 0]) (by simp [results, Tryd.results20, go_sem, y0, y1, y2]) rfl ⟨i', c', _, 0, 0, _, 0, 0, rfl, (fun h => absurd h HK1.out), HFIN.out.2, L16.out⟩
end Go.Proofs.YtlffdadmgginmaeDoor
namespace Go.Proofs.YtlffdadmgginmaeDoor
open Go.RowKit
attribute [local go_sem ↓] Go.wp_at_zero Go.wp_at_succ
set_option linter.unusedVariables false

/-- Numbers one behind the other. -/
def mkI (k n : Nat) : List Int := (List.range n).map (fun i => ((k + i : Nat) : Int))
theorem mkI_len (k n : Nat) : (mkI k n).length = n := by simp [mkI]
theorem mkI_at (k n j : Nat) (h : j < n) : (mkI k n).getD j 0 = ((k + j : Nat) : Int) := by simp [mkI, List.getD, h]
/-- The first j of zs marked. -/
def mkd (zs : List Int) (k j : Nat) : List Int := mkI k j ++ zs.drop j
theorem mkd_len (zs : List Int) (k j : Nat) (h : j ≤ zs.length) : (mkd zs k j).length = zs.length := by simp [mkd, mkI]; omega
theorem mkd_zero (zs : List Int) (k : Nat) : mkd zs k 0 = zs := by simp [mkd, mkI]
theorem mkd_all (zs : List Int) (k : Nat) : mkd zs k zs.length = mkI k zs.length := by simp [mkd]
theorem mkd_succ (zs : List Int) (k j : Nat) (h : j < zs.length) : (mkd zs k j).set j ((k + j : Nat) : Int) = mkd zs k (j + 1) := by
  unfold mkd
  rw [List.set_append_right _ _ (by rw [mkI_len]; exact Nat.le_refl _), mkI_len, Nat.sub_self, List.drop_eq_getElem_cons h, List.set_cons_zero]
  simp [mkI, List.range_succ]
set_option maxHeartbeats 1600000 in
theorem markI_any (B : Nat) (ao : Option Addr) (cap : Nat) (zs : List Int) (k : Nat) (w : World) (ho : OwnsI B w ao cap zs) (hn : zs.length ≤ 1048576) (hk : k ≤ 1048576) :
    Calls Tryd.prog 29 #[.slice ao zs.length cap, .int .i64 k] w fun e' w' => e' = .returned (.int .i64 ((k + zs.length : Nat) : Int)) ∧ OwnsI B w' ao cap (mkI k zs.length) ∧ w.grownBy w' (blk ao) := by
  generalize hN : zs.length = n at *
  have HN := hideH hN
  have HO := hideH ho
  clear hN ho
  go_enter Tryd.func29, Tryd.ntmps29
  go_wp2_with fail
  go_loopw [1, 5] (fun kk i wr => ∃ (j K : Nat), j ≤ n ∧ kk = .int .i64 K ∧ Hid (K = k + j) ∧ K ≤ 2097152 ∧ i = .int .i64 j ∧ Hid (OwnsI B wr ao cap (mkd zs k j)) ∧ Hid (w.grownBy wr (blk ao))) (fun _ i _ => n - (intOf i).toNat)
  case atStart => exact ⟨0, k, Nat.zero_le _, rfl, (rfl : k = k + 0), by omega, rfl, by show OwnsI _ _ _ _ _; rw [mkd_zero]; exact HO.out, World.grownBy.refl _ _⟩
  case round =>
    clear HO
    obtain ⟨j, K, hj, rfl, HK, hK, rfl, HO, HG⟩ := hrel
    have hml := mkd_len zs k j (by rw [HN.out]; exact hj)
    rw [HN.out] at hml
    by_cases hlt : j < n
    · obtain ⟨g, rfl, hBg, hgw, hgc⟩ := HO.out.at (by omega)
      have hcu := HO.out.cell (k := j) (by omega)
      have hfz := HO.out.free j
      have O2 := hideH (HO.out.set j ((K : Nat) : Int))
      rw [HK.out, mkd_succ zs k j (by rw [HN.out]; exact hlt), ← HK.out] at O2
      have G2 : Hid (w.grownBy (wr.setCell ⟨g, j, none⟩ (.int .i64 (K : Nat))) (blk (some ⟨g, 0, none⟩))) := grownBy_trans HG.out (grownBy_setCell wr ⟨g, j, none⟩ _)
      have HK2 : Hid (K + 1 = k + (j + 1)) := by show _ = _; rw [HK.out]; omega
      have hK2 : K + 1 ≤ 2097152 := by have := HK.out; omega
      clear HO HG hml
      go_wp2_with fail
      go_roundw
      case rel => exact ⟨j + 1, K + 1, by omega, by go_num, HK2, hK2, by go_num, O2, G2⟩
      case measure => simp [intOf]; omega
    · have e1 : j = n := by omega
      subst e1
      have O2 : Hid (OwnsI B wr ao cap (mkI k j)) := by
        have := HO.out
        rw [← HN.out, mkd_all, HN.out] at this
        exact this
      clear HO hml
      go_wp2_with fail
      go_ret
      exact ⟨by rw [← HK.out]; rfl, O2.out, HG.out⟩
set_option maxHeartbeats 1600000 in
theorem heldI_any (ao : Option Addr) (cap n k : Nat) (w : World) (hr : Row64 w ao (mkI k n)) (hn : n ≤ 1048576) (hk : k ≤ 1048576) :
    Calls Tryd.prog 30 #[.slice ao n cap, .int .i64 k] w fun e' w' => e' = .returned (.int .i64 ((k + n : Nat) : Int)) ∧ w' = w := by
  have HR := hideH hr
  clear hr
  go_enter Tryd.func30, Tryd.ntmps30
  go_wp2_with fail
  go_loop [1, 5] (fun kk i => ∃ (j K : Nat), j ≤ n ∧ kk = .int .i64 K ∧ Hid (K = k + j) ∧ K ≤ 2097152 ∧ i = .int .i64 j) (fun _ i => n - (intOf i).toNat)
  case atStart => exact ⟨0, k, Nat.zero_le _, rfl, (rfl : k = k + 0), by omega, rfl⟩
  case round =>
    obtain ⟨j, K, hj, rfl, HK, hK, rfl⟩ := hrel
    by_cases hlt : j < n
    · obtain ⟨b, off, rfl, hc⟩ := HR.out.at (k := j) (by rw [mkI_len]; exact hlt)
      have hcj := hc j (by rw [mkI_len]; exact hlt)
      rw [mkI_at k n j hlt, ← HK.out] at hcj
      have HK2 : Hid (K + 1 = k + (j + 1)) := by show _ = _; rw [HK.out]; omega
      have hK2 : K + 1 ≤ 2097152 := by have := HK.out; omega
      clear hc
      go_wp2_with fail
      go_round
      case rel => exact ⟨j + 1, K + 1, by omega, by go_num, HK2, hK2, by go_num⟩
      case measure => simp [intOf]; omega
    · have e1 : j = n := by omega
      subst e1
      go_wp2_with fail
      go_ret
      exact ⟨by rw [show ((k : Int) + (j : Int)) = (K : Int) from by have := HK.out; omega]; rfl, rfl⟩
end Go.Proofs.YtlffdadmgginmaeDoor
namespace Go.Proofs.YtlffdadmgginmaeDoor
open Go.RowKit
attribute [local go_sem ↓] Go.wp_at_zero Go.wp_at_succ
set_option linter.unusedVariables false

/-- Two lists of numbers that are the call's own and lie apart. -/
structure LensIn (B : Nat) (w : World) (a1 : Option Addr) (c1 : Nat) (ls : List Int) (a2 : Option Addr) (c2 : Nat) (ds : List Int) : Prop where
  o1 : OwnsI B w a1 c1 ls
  o2 : OwnsI B w a2 c2 ds
  ne : ∀ g, blk a1 = some g → blk a2 ≠ some g
theorem LensIn.grown {B : Nat} {w w' : World} {row : Option Nat} {a1 a2 : Option Addr} {c1 c2 : Nat} {ls ds : List Int} (h : LensIn B w a1 c1 ls a2 c2 ds) (hg : w.grownBy w' row) (h1 : ∀ k, row = some k → blk a1 ≠ some k) (h2 : ∀ k, row = some k → blk a2 ≠ some k) : LensIn B w' a1 c1 ls a2 c2 ds :=
  ⟨h.o1.grown hg h1, h.o2.grown hg h2, h.ne⟩
theorem LensIn.below {B : Nat} {w w' : World} {a1 a2 : Option Addr} {c1 c2 : Nat} {ls ds : List Int} (h : LensIn B w a1 c1 ls a2 c2 ds) (hb : Below w.heap.size w w') : LensIn B w' a1 c1 ls a2 c2 ds := ⟨h.o1.below hb, h.o2.below hb, h.ne⟩
theorem OwnsI.nil (B : Nat) (w : World) : OwnsI B w none 0 [] := ⟨rfl, .inl ⟨rfl, rfl⟩⟩
theorem LensIn.nil (B : Nat) (w : World) : LensIn B w none 0 [] none 0 [] := ⟨OwnsI.nil B w, OwnsI.nil B w, fun g e => by cases e⟩
/-- What ReadLens answers: number, lengths of both codes, bits. -/
def LensIs (k : Int) (ls ds : List Int) (n : Int) (e : Ending) (w w' : World) : Prop :=
  ∃ a1 c1 a2 c2, e = .returned (.agg #[.int .i64 k, .slice a1 ls.length c1, .slice a2 ds.length c2, .int .i64 n]) ∧ LensIn w.heap.size w' a1 c1 ls a2 c2 ds ∧ Below w.heap.size w w'
set_option maxRecDepth 100000 in
theorem eqLens_same (k n : Int) (a1 a2 b1 b2 : Option Addr) (c1 c2 d1 d2 : Nat) (ls ds : List Int) (w : World) (h1 : Row64 w a1 ls) (h2 : Row64 w a2 ds) (h3 : Row64 w b1 ls) (h4 : Row64 w b2 ds) (hl : ls.length ≤ 1048576) (hd : ds.length ≤ 1048576) :
    Calls Tryd.prog 8 #[.agg #[.int .i64 k, .slice a1 ls.length c1, .slice a2 ds.length c2, .int .i64 n], .agg #[.int .i64 k, .slice b1 ls.length d1, .slice b2 ds.length d2, .int .i64 n]] w fun e w' => e = .returned (.bool true) ∧ Below w.heap.size w w' := by
  have H1 := hideM (fun W (hb : Below w.heap.size w W) => eqInt64S_any a1 b1 c1 d1 ls ls W (h1.below hb) (h3.below hb) (by omega))
  have H2 := hideM (fun W (hb : Below w.heap.size w W) => eqInt64S_any a2 b2 c2 d2 ds ds W (h2.below hb) (h4.below hb) (by omega))
  rw [decide_eq_true rfl] at H1 H2
  clear h1 h2 h3 h4
  go_enter Tryd.func8, Tryd.ntmps8
  go_wp2_with fail
  refine Calls.mono (H1.out _ (((Below.refl _ _).alloc (Nat.le_refl _) _).alloc (by simp) _)) ?_
  rintro e w1 ⟨rfl, q1, rfl⟩
  go_wp2_with fail
  refine Calls.mono (H2.out _ ((((Below.refl _ _).alloc (Nat.le_refl _) _).alloc (by simp) _).trans (below_drewN' _ _ _))) ?_
  rintro e w2 ⟨rfl, q2, rfl⟩
  go_wp2_with fail
  go_ret
  exact ⟨rfl, (((Below.refl _ _).alloc (Nat.le_refl _) _).alloc (by simp) _).trans (below_drewN' _ _ _)⟩
set_option maxRecDepth 100000 in
theorem markLens_any (B : Nat) (k n : Int) (a1 a2 : Option Addr) (c1 c2 : Nat) (ls ds : List Int) (w : World) (h : LensIn B w a1 c1 ls a2 c2 ds) (hB : B ≤ w.heap.size) (hl : ls.length ≤ 1000) (hd : ds.length ≤ 1000) :
    Calls Tryd.prog 11 #[.agg #[.int .i64 k, .slice a1 ls.length c1, .slice a2 ds.length c2, .int .i64 n], .int .i64 1] w fun e w' => e = .returned (.int .i64 ((1 + ls.length + ds.length : Nat) : Int)) ∧ LensIn B w' a1 c1 (mkI 1 ls.length) a2 c2 (mkI (1 + ls.length) ds.length) ∧ Below B w w' ∧ ∀ k, k < w.heap.size → blk a1 ≠ some k → blk a2 ≠ some k → w'.heap[k]? = w.heap[k]? := by
  have b0 : Below w.heap.size w (w.alloc (.cells #[.int .i64 k, .slice a1 ls.length c1, .slice a2 ds.length c2, .int .i64 n] 25)) := (Below.refl _ _).alloc (Nat.le_refl _) _
  have H1 := hideM (markI_any B a1 c1 ls 1 _ (h.o1.below b0) (by omega) (by omega))
  have H2 := hideM (fun W (ho : OwnsI B W a2 c2 ds) => markI_any B a2 c2 ds (1 + ls.length) W ho (by omega) (by omega))
  have HH := hideM h
  have L1 := hideM (fun g (e : blk a1 = some g) => h.o1.lies g e)
  have HB0 := hideM b0
  clear h b0
  go_enter Tryd.func11, Tryd.ntmps11
  go_wp2_with fail
  refine Calls.mono H1.out ?_
  rintro e w1 ⟨rfl, ho1, hg1⟩
  have O1 := hideM ho1
  have O2 := hideM ((HH.out.o2.below HB0.out).grown hg1 (fun g e h2 => HH.out.ne g e h2))
  have hz : w.heap.size < w1.heap.size := by have := hg1.size; simp at this; omega
  have B1 := hideM ((HB0.out.mono hB).grown hg1 (by have := HB0.out.size; omega) (fun g e => HH.out.o1.base g e))
  have HK1 : Hid (∀ k, k < w.heap.size → blk a1 ≠ some k → w1.heap[k]? = w.heap[k]?) := fun k hk hne => (hg1.block k (by simp; omega) (fun e => hne e.symm)).trans (HB0.out.block k hk)
  have c2' : w1.cell? ⟨w.heap.size, 2, none⟩ = some (.slice a2 ds.length c2) := hg1.cell (by simp [go_sem]) (fun e => by have := L1.out _ e.symm; simp at this)
  clear ho1 hg1
  go_wp2_with fail
  refine Calls.mono (H2.out _ O2.out) ?_
  rintro e w2 ⟨rfl, ho2, hg2⟩
  have O3 := hideM (O1.out.grown hg2 (fun g e h2 => HH.out.ne g h2 e))
  have O4 := hideM ho2
  have B2 := hideM (B1.out.grown hg2 (by omega) (fun g e => HH.out.o2.base g e))
  have HK2 : Hid (∀ k, k < w.heap.size → blk a1 ≠ some k → blk a2 ≠ some k → w2.heap[k]? = w.heap[k]?) := fun k hk hne hne2 => (hg2.block k (by omega) (fun e => hne2 e.symm)).trans (HK1.out k hk hne)
  clear ho2 hg2
  go_wp2_with fail
  go_ret
  exact ⟨rfl, ⟨O3.out, O4.out, HH.out.ne⟩, B2.out, HK2.out⟩
set_option maxRecDepth 100000 in
theorem heldLens_any (B : Nat) (k n : Int) (a1 a2 : Option Addr) (c1 c2 : Nat) (l d : Nat) (w : World) (h : LensIn B w a1 c1 (mkI 1 l) a2 c2 (mkI (1 + l) d)) (hl : l ≤ 1000) (hd : d ≤ 1000) :
    Calls Tryd.prog 12 #[.agg #[.int .i64 k, .slice a1 l c1, .slice a2 d c2, .int .i64 n], .int .i64 1] w fun e w' => e = .returned (.int .i64 ((1 + l + d : Nat) : Int)) ∧ Below w.heap.size w w' := by
  have b0 : Below w.heap.size w (w.alloc (.cells #[.int .i64 k, .slice a1 l c1, .slice a2 d c2, .int .i64 n] 25)) := (Below.refl _ _).alloc (Nat.le_refl _) _
  have H1 := hideM (heldI_any a1 c1 l 1 _ (h.o1.row.below b0) (by omega) (by omega))
  have H2 := hideM (heldI_any a2 c2 d (1 + l) _ (h.o2.row.below b0) (by omega) (by omega))
  have HB0 := hideM b0
  clear h b0
  go_enter Tryd.func12, Tryd.ntmps12
  go_wp2_with fail
  refine Calls.mono H1.out ?_
  rintro e w1 ⟨rfl, rfl⟩
  have hk : ¬ (((1 + l : Nat) : Int) < 0) := by omega
  have hk2 : decide (((1 + l : Nat) : Int) < 0) = false := decide_eq_false hk
  go_wp2_with fail
  refine Calls.mono H2.out ?_
  rintro e w2 ⟨rfl, rfl⟩
  go_wp2_with fail
  go_ret
  exact ⟨rfl, HB0.out⟩
end Go.Proofs.YtlffdadmgginmaeDoor
