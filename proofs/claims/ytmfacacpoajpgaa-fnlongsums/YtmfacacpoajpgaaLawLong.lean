import Derived.Test.YtmfacacpoajpgaaUpdL
import Derived.Test.YtmfacacpoajpgaaByteS
namespace Go.Proofs.Ytmfacacpoajpgaa
open Go.RowKit
attribute [local go_sem ↓] Go.wp_at_zero Go.wp_at_succ

theorem law_long_big (co : Option Addr) (n cc : Nat) (w : World) (h : 1048576 < n) (hn : n ≤ 9223372036854775807) :
    Calls Try.prog 4 #[.slice co n cc] w fun e w' => e = .returned (.bool true) ∧ Below w.heap.size w w' := by
  go_enter Try.func4, Try.ntmps4
  go_wp2_with fail
  go_ret
  exact ⟨rfl, Below.refl _ _⟩

theorem or128 (x : Nat) (h : x ≤ 255) : ∃ y : Nat, bits .or .u8 (x : Int) 128 = (y : Int) ∧ y ≤ 255 := by
  refine ⟨x ||| 128, ?_, ?_⟩
  · have : ∀ a : Nat, a ≤ 255 → bits .or .u8 (a : Int) 128 = ((a ||| 128 : Nat) : Int) := by decide +kernel
    exact this x h
  · have : x ||| 128 < 2 ^ 8 := Nat.or_lt_two_pow (by omega) (by decide)
    omega

set_option maxRecDepth 100000 in
set_option maxHeartbeats 6400000 in
theorem law_long (co : Option Addr) (cc : Nat) (cs : List Int) (w : World) (hr : Row w co cs) (ho : Octets cs) (hn : cs.length ≤ 1048576) :
    Calls Try.prog 4 #[.slice co cs.length cc] w fun e w' => e = .returned (.bool true) ∧ Below w.heap.size w w' := by
  obtain ⟨i0, hi, hz0, hz1, hz2⟩ := info_parts Try.info_u8
  go_enter Try.func4, Try.ntmps4
  go_wp2_with fail
  refine (lwAt_any co cc cs 0 w hr ho (by decide)).mono ?_
  rintro e w' ⟨⟨x0, rfl, hx0⟩, rfl⟩
  go_wp2_with fail
  refine (lwAt_any co cc cs 1 w' hr ho (by decide)).mono ?_
  rintro e w ⟨⟨x1, rfl, hx1⟩, rfl⟩
  obtain ⟨N, hN⟩ : ∃ N : Nat, (256 * x0 + x1) % 60000 = N := ⟨_, rfl⟩
  have hmod : (256 * (x0 : Int) + (x1 : Int)) % 60000 = (N : Int) := by omega
  have hNl : (N : Int) < 60000 := by omega
  have hm : N ≤ maxLen := by unfold maxLen; omega
  clear hN
  go_upto_region 4 with fail
  rw [hmod]
  clear hmod hx0 hx1
  have hN2 : N ≤ 140737488355328 := by omega
  have HLV : Hid (Row w co cs) := hr
  clear hr
  go_wp2_with (at_make; refine wpList_make_full _ rfl _ _ 22 rfl w.heap.size 5 i0 (.int .u8 0) 1 Try.underlying22 hi hz0 hz1 _ _ _ _ N rfl rfl rfl rfl (by rw [hz2]; omega) hm (Nat.le_refl _) ?_)
  intro w1 hown hgrow
  rw [toList_madeCells_one] at hown
  rw [← List.map_replicate] at hown
  have hB1 : Below w.heap.size w w1 := (Below.refl _ _).grown hgrow (Nat.le_refl _) (by simp)
  have hown' : w1.ownsRow w.heap.size 5 1 (.slice (some ⟨w.heap.size, 0, none⟩) N N) N ((List.replicate N (0 : Int)).map (Value.int .u8)) := hown
  have hR1 : Row w1 (some ⟨w.heap.size, 0, none⟩) (List.replicate N 0) := Row.owned hown'
  have hO1 : Open w1 (some ⟨w.heap.size, 0, none⟩) N := Open.owned hown' N
  have hY1 : Hid (∃ ys : List Int, ys.length = N ∧ Octets ys ∧ Row w1 (some ⟨w.heap.size, 0, none⟩) ys) := ⟨List.replicate N 0, List.length_replicate, (fun z hz => by have := List.eq_of_mem_replicate hz; subst this; decide), hR1⟩
  clear hown hown' hgrow hR1
  go_wp2_with fail
  go_loopw [5] (fun i wr => ∃ k : Nat, k ≤ N ∧ i = .int .i64 k ∧ Hid (∃ ys : List Int, ys.length = N ∧ Octets ys ∧ Row wr (some ⟨w.heap.size, 0, none⟩) ys) ∧ Open wr (some ⟨w.heap.size, 0, none⟩) N ∧ Below w.heap.size w wr) (fun i _ => N - (intOf i).toNat)
  case atStart => exact ⟨0, Nat.zero_le _, rfl, hY1, hO1, hB1⟩
  case round =>
    clear hY1 hO1 hB1
    obtain ⟨k, hk, rfl, HY, hO, hB⟩ := hrel
    obtain ⟨ys, hyl, hyo, hyr⟩ := HY.out
    clear HY
    by_cases hlt : k < N
    · have hrc := HLV.out.below hB
      obtain ⟨b, off, e, hc⟩ := hyr.at (k := k) (by omega)
      simp only [Option.some.injEq, Addr.mk.injEq, and_true] at e
      obtain ⟨rfl, rfl⟩ := e
      have hck := hc k (by omega)
      rw [Nat.zero_add] at hck
      have hfk := hO _ rfl k hlt
      simp only [Nat.zero_add] at hfk
      go_wp2_with fail
      refine (lwAt_any co cc cs 2 _ hrc ho (by decide)).mono ?_
      rintro e wx ⟨⟨x2, rfl, hx2⟩, rfl⟩
      obtain ⟨y, hy, hy2⟩ := or128 x2 hx2
      have hr2 := hyr.set (k := k) (by omega) (y : Int)
      rw [Nat.zero_add] at hr2
      have hb2 := hB.grown (grownBy_setCell wx ⟨w.heap.size, k, none⟩ (.int .u8 (y : Int))) hB.size (by intro j e; simp at e; omega)
      have ho2 : Open (wx.setCell ⟨w.heap.size, k, none⟩ (.int .u8 (y : Int))) (some ⟨w.heap.size, 0, none⟩) N := by
        intro ad e i hi
        rw [World.frozen?_setCell]
        exact hO ad e i hi
      have HY2 : Hid (∃ ys : List Int, ys.length = N ∧ Octets ys ∧ Row (wx.setCell ⟨w.heap.size, k, none⟩ (.int .u8 (y : Int))) (some ⟨w.heap.size, 0, none⟩) ys) := ⟨ys.set k y, by rw [List.length_set]; exact hyl, (fun z hz => by rcases List.mem_or_eq_of_mem_set hz with h | h; exact hyo z h; omega), hr2⟩
      clear hc hyr hrc hO hB hr2 hyo hyl
      go_wp2_with fail
      go_roundw
      case rel => exact ⟨k + 1, by omega, by go_num, HY2, ho2, hb2⟩
      case measure => simp [intOf]; omega
    · clear hO
      by_cases h0 : 0 < N
      · obtain ⟨H, hH⟩ : ∃ H, N / 2 = H := ⟨_, rfl⟩
        obtain ⟨M, hM⟩ : ∃ M, N - H = M := ⟨_, rfl⟩
        have hdv : (N : Int) / 2 = (H : Int) := by omega
        have hHN : H < N := by omega
        have hNH : ¬ N = H := by omega
        have hw : IntKind.i64.wrap ((N : Int) - (H : Int)) = (M : Int) := by rw [IntKind.wrap_i64]; omega
        have hH0 : (0 : Int) ≤ H := by omega
        have hHNi : (H : Int) ≤ N := by omega
        obtain ⟨xs, hxs⟩ : ∃ xs, ys.take H = xs := ⟨_, rfl⟩
        obtain ⟨zs, hzs⟩ : ∃ zs, ys.drop H = zs := ⟨_, rfl⟩
        have hxl : xs.length = H := by rw [← hxs, List.length_take]; omega
        have hzl : zs.length = M := by rw [← hzs, List.length_drop]; omega
        have hxo : Octets xs := by rw [← hxs]; exact octets_take hyo H
        have hzo : Octets zs := by rw [← hzs]; exact octets_drop hyo H
        have hall : xs ++ zs = ys := by rw [← hxs, ← hzs, List.take_append_drop]
        have hxr : ∀ W, Row W (some ⟨w.heap.size, 0, none⟩) ys → Row W (some ⟨w.heap.size, 0, none⟩) xs := by
          intro W hW i hi
          obtain ⟨b, off, e, hc⟩ := hW i (by omega)
          refine ⟨b, off, e, ?_⟩
          rw [hc, ← hxs]
          simp [List.getD, show i < H by omega]
        have hzr : ∀ W, Row W (some ⟨w.heap.size, 0, none⟩) ys → Row W (some ⟨w.heap.size, H, none⟩) zs := by
          intro W hW
          have h1 := row_cut_if' (cap := N) (k := H) hW (by omega)
          rw [if_neg hNH, Nat.zero_add, hzs] at h1
          exact h1
        clear hxs hzs hH
        have HSA : Hid (∀ W, Row W (some ⟨w.heap.size, 0, none⟩) ys → Calls Try.prog 11 #[.int .u32 1, .slice (some ⟨w.heap.size, 0, none⟩) N N] W fun e w' => e = .returned (.int .u32 (Adl.adl ys)) ∧ w' = W) := by
          intro W hW
          exact (show Calls Try.prog 11 #[.int .u32 1, .slice _ N N] W _ from by rw [← hyl]; exact sadl_any _ _ ys W hW hyo (by omega))
        have HSC : Hid (∀ W, Row W (some ⟨w.heap.size, 0, none⟩) ys → Calls Try.prog 12 #[.int .u32 0, .slice (some ⟨w.heap.size, 0, none⟩) N N] W fun e w' => e = .returned (.int .u32 (Crc.crc ys : Nat)) ∧ w' = W) := by
          intro W hW
          exact (show Calls Try.prog 12 #[.int .u32 0, .slice _ N N] W _ from by rw [← hyl]; exact scrc0_any _ _ ys W hW hyo (by omega))
        have HA0 : Hid (∀ W, Row W (some ⟨w.heap.size, 0, none⟩) ys → Calls Try.prog 13 #[.int .u32 1, .slice (some ⟨w.heap.size, 0, none⟩) N N] W fun e w' => e = .returned (.int .u32 (Adl.adl ys)) ∧ w' = W) := by
          intro W hW
          exact adl_first _ _ ys N hyl W hW hyo (by omega) (by omega)
        have HA1 : Hid (∀ W, Row W (some ⟨w.heap.size, 0, none⟩) ys → Calls Try.prog 13 #[.int .u32 1, .slice (some ⟨w.heap.size, 0, none⟩) H N] W fun e w' => e = .returned (.int .u32 (Adl.adl xs)) ∧ w' = W) := by
          intro W hW
          exact adl_first _ _ xs H hxl W (hxr W hW) hxo (by omega) (by omega)
        have HA2 : Hid (∀ W, Row W (some ⟨w.heap.size, 0, none⟩) ys → Calls Try.prog 13 #[.int .u32 1, .slice (some ⟨w.heap.size, H, none⟩) M M] W fun e w' => e = .returned (.int .u32 (Adl.adl zs)) ∧ w' = W) := by
          intro W hW
          exact adl_first _ _ zs M hzl W (hzr W hW) hzo (by omega) (by omega)
        have HC0 : Hid (∀ W, Row W (some ⟨w.heap.size, 0, none⟩) ys → Calls Try.prog 15 #[.int .u32 0, .slice (some ⟨w.heap.size, 0, none⟩) N N] W fun e w' => e = .returned (.int .u32 (Crc.crc ys : Nat)) ∧ Below W.heap.size W w') := by
          intro W hW
          exact crc_first _ _ ys N hyl W hW hyo (by omega) (by omega)
        have HC1 : Hid (∀ W, Row W (some ⟨w.heap.size, 0, none⟩) ys → Calls Try.prog 15 #[.int .u32 0, .slice (some ⟨w.heap.size, 0, none⟩) H N] W fun e w' => e = .returned (.int .u32 (Crc.crc xs : Nat)) ∧ Below W.heap.size W w') := by
          intro W hW
          exact crc_first _ _ xs H hxl W (hxr W hW) hxo (by omega) (by omega)
        have HC2 : Hid (∀ W, Row W (some ⟨w.heap.size, 0, none⟩) ys → Calls Try.prog 15 #[.int .u32 0, .slice (some ⟨w.heap.size, H, none⟩) M M] W fun e w' => e = .returned (.int .u32 (Crc.crc zs : Nat)) ∧ Below W.heap.size W w') := by
          intro W hW
          exact crc_first _ _ zs M hzl W (hzr W hW) hzo (by omega) (by omega)
        have HJA : Hid (∀ W, Calls Try.prog 14 #[.int .u32 (Adl.adl xs), .int .u32 (Adl.adl zs), .int .i64 ((M : Nat) : Int)] W fun e w' => e = .returned (.int .u32 (Adl.adl ys)) ∧ w' = W) := fun W => adl_joined xs zs ys M hzl hall (by omega) W
        have HJC : Hid (∀ W, Calls Try.prog 16 #[.int .u32 (Crc.crc xs : Nat), .int .u32 (Crc.crc zs : Nat), .int .i64 ((M : Nat) : Int)] W fun e w' => e = .returned (.int .u32 (Crc.crc ys : Nat)) ∧ w' = W) := fun W => crc_joined xs zs ys hxo hzo M hzl hall (by omega) W
        clear hxl hzl hxo hzo hxr hzr hall hyo hyl
        generalize Adl.adl ys = P0 at *
        generalize Adl.adl xs = P1 at *
        generalize Adl.adl zs = P2 at *
        generalize Crc.crc ys = Q0 at *
        generalize Crc.crc xs = Q1 at *
        generalize Crc.crc zs = Q2 at *
        go_wp2_with fail
        refine Calls.mono (HSA.out _ hyr) ?_
        rintro e wa ⟨rfl, rfl⟩
        go_wp2_with fail
        refine Calls.mono (HSC.out _ hyr) ?_
        rintro e wb ⟨rfl, rfl⟩
        clear HSA HSC
        go_wp2_with fail
        go_region_held3 (fun _ => True) (exact trivial)
          (first
            | (go_at_call 13; with_reducible refine Calls.mono (HA0.out _ ?_) ?_; (first | exact hyr | exact hyr.below ((Below.refl _ _).drew)); rintro e w9 ⟨rfl, rfl⟩)
            | (go_at_call 13; with_reducible refine Calls.mono (HA1.out _ ?_) ?_; (first | exact hyr | exact hyr.below ((Below.refl _ _).drew)); rintro e w9 ⟨rfl, rfl⟩)
            | (go_at_call 13; with_reducible refine Calls.mono (HA2.out _ ?_) ?_; (first | exact hyr | exact hyr.below ((Below.refl _ _).drew)); rintro e w9 ⟨rfl, rfl⟩)
            | (go_at_call 15; with_reducible refine Calls.mono (HC0.out _ ?_) ?_; (first | exact hyr | exact hyr.below ((Below.refl _ _).drew)); rintro e w7 ⟨rfl, hb7⟩; have hyr : Row w7 (some ⟨w.heap.size, 0, none⟩) ys := (by first | exact hyr.below hb7 | exact (hyr.below ((Below.refl _ _).drew)).below hb7); have hB : Below w.heap.size w w7 := (by first | exact hB.trans (hb7.mono hB.size) | exact hB.drew.trans (hb7.mono hB.drew.size)))
            | (go_at_call 15; with_reducible refine Calls.mono (HC1.out _ ?_) ?_; (first | exact hyr | exact hyr.below ((Below.refl _ _).drew)); rintro e w7 ⟨rfl, hb7⟩; have hyr : Row w7 (some ⟨w.heap.size, 0, none⟩) ys := (by first | exact hyr.below hb7 | exact (hyr.below ((Below.refl _ _).drew)).below hb7); have hB : Below w.heap.size w w7 := (by first | exact hB.trans (hb7.mono hB.size) | exact hB.drew.trans (hb7.mono hB.drew.size)))
            | (go_at_call 15; with_reducible refine Calls.mono (HC2.out _ ?_) ?_; (first | exact hyr | exact hyr.below ((Below.refl _ _).drew)); rintro e w7 ⟨rfl, hb7⟩; have hyr : Row w7 (some ⟨w.heap.size, 0, none⟩) ys := (by first | exact hyr.below hb7 | exact (hyr.below ((Below.refl _ _).drew)).below hb7); have hB : Below w.heap.size w w7 := (by first | exact hB.trans (hb7.mono hB.size) | exact hB.drew.trans (hb7.mono hB.drew.size)))
            | (go_at_call 14; with_reducible refine Calls.mono (HJA.out _) ?_; rintro e w9 ⟨rfl, rfl⟩)
            | (go_at_call 16; with_reducible refine Calls.mono (HJC.out _) ?_; rintro e w9 ⟨rfl, rfl⟩))
        go_wp2_with fail
        go_ret
        exact ⟨rfl, hB⟩
      · obtain rfl : N = 0 := by omega
        obtain rfl : ys = [] := List.length_eq_zero_iff.mp hyl
        have hyo : Octets [] := fun z hz => by cases hz
        have HSA : Hid (∀ W, Calls Try.prog 11 #[.int .u32 1, .slice (some ⟨w.heap.size, 0, none⟩) 0 0] W fun e w' => e = .returned (.int .u32 (Adl.adl [])) ∧ w' = W) := fun W => sadl_any _ 0 [] W (Row.nil _ _) hyo (by decide)
        have HSC : Hid (∀ W, Calls Try.prog 12 #[.int .u32 0, .slice (some ⟨w.heap.size, 0, none⟩) 0 0] W fun e w' => e = .returned (.int .u32 (Crc.crc [] : Nat)) ∧ w' = W) := fun W => scrc0_any _ 0 [] W (Row.nil _ _) hyo (by decide)
        have HA0 : Hid (∀ W, Calls Try.prog 13 #[.int .u32 1, .slice (some ⟨w.heap.size, 0, none⟩) 0 0] W fun e w' => e = .returned (.int .u32 (Adl.adl [])) ∧ w' = W) := fun W => adl_first _ 0 [] 0 rfl W (Row.nil _ _) hyo (Nat.zero_le _) (by simp)
        have HC0 : Hid (∀ W, Calls Try.prog 15 #[.int .u32 0, .slice (some ⟨w.heap.size, 0, none⟩) 0 0] W fun e w' => e = .returned (.int .u32 (Crc.crc [] : Nat)) ∧ Below W.heap.size W w') := fun W => crc_first _ 0 [] 0 rfl W (Row.nil _ _) hyo (Nat.zero_le _) (by simp)
        have HJA : Hid (∀ W, Calls Try.prog 14 #[.int .u32 (Adl.adl []), .int .u32 (Adl.adl []), .int .i64 0] W fun e w' => e = .returned (.int .u32 (Adl.adl [])) ∧ w' = W) := fun W => adl_joined [] [] [] 0 rfl rfl (by omega) W
        have HJC : Hid (∀ W, Calls Try.prog 16 #[.int .u32 (Crc.crc [] : Nat), .int .u32 (Crc.crc [] : Nat), .int .i64 0] W fun e w' => e = .returned (.int .u32 (Crc.crc [] : Nat)) ∧ w' = W) := fun W => crc_joined [] [] [] hyo hyo 0 rfl rfl (by omega) W
        have hw0 : IntKind.i64.wrap 0 = 0 := by rw [IntKind.wrap_i64]; omega
        clear hyo hyr
        generalize Adl.adl [] = P0 at *
        generalize Crc.crc [] = Q0 at *
        go_wp2_with fail
        refine Calls.mono (HSA.out _) ?_
        rintro e wa ⟨rfl, rfl⟩
        go_wp2_with fail
        refine Calls.mono (HSC.out _) ?_
        rintro e wb ⟨rfl, rfl⟩
        clear HSA HSC
        go_wp2_with fail
        go_region_held3 (fun _ => True) (exact trivial)
          (first
            | (go_at_call 13; with_reducible refine Calls.mono (HA0.out _) ?_; rintro e w9 ⟨rfl, rfl⟩)
            | (go_at_call 15; with_reducible refine Calls.mono (HC0.out _) ?_; rintro e w7 ⟨rfl, hb7⟩; have hyr : Row w7 (some ⟨w.heap.size, 0, none⟩) [] := Row.nil _ _; have hB : Below w.heap.size w w7 := (by first | exact hB.trans (hb7.mono hB.size) | exact hB.drew.trans (hb7.mono hB.drew.size)))
            | (go_at_call 14; with_reducible refine Calls.mono (HJA.out _) ?_; rintro e w9 ⟨rfl, rfl⟩)
            | (go_at_call 16; with_reducible refine Calls.mono (HJC.out _) ?_; rintro e w9 ⟨rfl, rfl⟩))
        go_wp2_with fail
        go_ret
        exact ⟨rfl, hB⟩
end Go.Proofs.Ytmfacacpoajpgaa
