import Derived.Test.YtmfacacpoajpgabHCI
namespace Go.Proofs.Ytmfacacpoajpgab
open Go.RowKit
attribute [local go_sem ↓] Go.wp_at_zero Go.wp_at_succ
set_option linter.unusedVariables false

section
variable {P : Program} (w : World)
/-- append of elements of many cells, which lie anywhere, onto a row of the call's own. -/
theorem wpList_append_cells {ops : Array Oper} {rest : List Oper} {o : Oper} {a : Act} {Q : Exit → Act → World → Prop} (hgd : o.guard = none) (s x : Operand) (t : TypeId)
    (ho : o.op = .call { callee := .builtin .append, args := #[s, x], argTypes := #[t, t] })
    (base : Nat) (e : TypeId) (i : TypeInfo) (z : Value) (size bytes : Nat) (ht : P.underlying t = some (.slice e)) (hi : P.info? e = some i) (hz : i.zero = some z)
    (hsize : i.size = size) (hby : i.bytes = bytes) (hzs : z.cells.size = size) (hsz : 0 < size)
    (v : Value) (n : Nat) (xs : List Value) (hs : a.eval s = v) (hown : w.ownsRow base e size v n xs) (ad : Addr) (m c : Nat) (news : List Value) (hx : a.eval x = .slice (some ad) m c)
    (hl : news.length = m * size) (hnews : ∀ j u, news[j]? = some u → w.cell? (ad.add j) = some u) (h1 : ∀ u ∈ news, u.oneCell' = true)
    (h63 : n + m ≤ maxLen) (hbytes : (n + m) * bytes ≤ 140737488355328) (hbase : base ≤ w.heap.size)
    (h : ∀ v' w', w'.ownsRow base e size v' (n + m) (xs ++ news) → w.grownBy w' v.ownBlock → wpList P ops Q rest (a.put o.dst v') w') : wpList P ops Q (o :: rest) a w := by
  refine wpList_plain hgd fun K hK => ?_
  obtain ⟨v', w', hr, h2, h3, _⟩ := run_append_own_at (P := P) w base t o.type e i z size bytes ht hi hz hsize hby hzs hsz v n xs hown ad m c news hl hnews h1 h63 hbytes hbase
  unfold Oper.wp execOp
  simp only [ho, resolve, invoke, builtin, Sem.run_bind, Sem.run_pure, Result.andThen_ok, List.map_toArray, List.map_cons, List.map_nil, hs, hx, hr]
  exact hK _ _ (h v' w' h2 h3)
end

/-- The cells of k zero codes. -/
def zc : Nat → List Value
  | 0 => []
  | k + 1 => zc k ++ [.int .i64 0, .int .u64 0]
theorem zc_len (k : Nat) : (zc k).length = k * 2 := by
  induction k with
  | zero => rfl
  | succ k ih => simp [zc, ih]; omega
theorem zc_at (k j : Nat) (h : j < k * 2) : (zc k)[j]? = some (if j % 2 = 0 then .int .i64 0 else .int .u64 0) := by
  induction k with
  | zero => omega
  | succ k ih =>
    have hl := zc_len k
    rw [zc]
    by_cases h1 : j < k * 2
    · rw [List.getElem?_append_left (by omega)]; exact ih h1
    · rw [List.getElem?_append_right (by omega), hl]
      have h2 : j = k * 2 ∨ j = k * 2 + 1 := by omega
      rcases h2 with rfl | rfl
      · rw [Nat.sub_self, if_pos (by omega)]; rfl
      · rw [show k * 2 + 1 - k * 2 = 1 by omega, if_neg (by omega)]; rfl

/-- What the outer loop has made behind the lengths below l + 1, and of that length the first i. -/
def part (zs : List Int) (l i m : Nat) : Nat × Nat := if (zs.getD m 0).toNat < l ∨ ((zs.getD m 0).toNat = l ∧ m < i) then code zs m else (0, 0)
theorem code_zero {zs : List Int} {m : Nat} (h : (zs.getD m 0).toNat = 0) : code zs m = (0, 0) := by rw [code, if_pos h]
/-- The code behind all symbols of length j. -/
def endc (zs : List Int) (j : Nat) : Nat := if j = 0 then 0 else fst (cnt zs) j + cnt zs j
theorem endc_next (zs : List Int) (j : Nat) : 2 * endc zs j = fst (cnt zs) (j + 1) := by
  unfold endc
  cases j with
  | zero => rfl
  | succ j => rw [if_neg (by omega)]; rfl

theorem endc_le (zs : List Int) (j : Nat) (hj : j ≤ 15) (hn : zs.length ≤ 320) : endc zs j ≤ 20971840 := by
  unfold endc
  split
  · omega
  · have h1 := fst_le (cnt zs) (fun i => Nat.le_trans (cnt_le _ _) hn) j
    have h2 : cnt zs j ≤ 320 := Nat.le_trans (cnt_le _ _) hn
    have h3 : 2 ^ j ≤ 32768 := Nat.le_trans (Nat.pow_le_pow_right (by decide) hj) (by decide)
    omega

end Go.Proofs.Ytmfacacpoajpgab
