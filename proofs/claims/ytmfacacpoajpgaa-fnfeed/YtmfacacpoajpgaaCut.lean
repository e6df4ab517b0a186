import Derived.Test.YtmfacacpoajpgaaDraw
import Derived.Test.YtmfacacpoajpgaaOwn
namespace Go.Proofs.Ytmfacacpoajpgaa
open Go.RowKit
attribute [local go_sem ↓] Go.wp_at_zero Go.wp_at_succ

/-- laws.lwAt, in front of the end or behind: a byte. -/
theorem lwAt_any (co : Option Addr) (cc : Nat) (cs : List Int) (i : Nat) (w : World) (hr : Row w co cs) (ho : Octets cs) (hi : i ≤ 1048576) :
    Calls Try.prog 10 #[.slice co cs.length cc, .int .i64 i] w fun e w' => (∃ x : Nat, e = .returned (.int .i64 x) ∧ x ≤ 255) ∧ w' = w := by
  by_cases hlt : i < cs.length
  · obtain ⟨b, off, rfl, hc⟩ := hr.at hlt
    have hck := hc i hlt
    have hy := ho.getD i
    clear hc hr ho
    generalize cs.getD i 0 = y at *
    obtain ⟨Y, rfl⟩ := Int.eq_ofNat_of_zero_le hy.1
    go_enter Try.func10, Try.ntmps10
    go_wp2_with fail
    go_ret
    exact ⟨⟨Y, rfl, by omega⟩, rfl⟩
  · clear hr ho
    go_enter Try.func10, Try.ntmps10
    go_wp2_with fail
    go_ret
    refine ⟨⟨(i * 47 + 13) % 256, ?_, by omega⟩, rfl⟩
    congr 2

theorem lwOne_any (b : Bool) (w : World) : Calls Try.prog 24 #[.bool b] w fun e w' => e = .returned (.int .i64 (if b then 1 else 0)) ∧ w' = w := by
  cases b
  all_goals
    go_enter Try.func24, Try.ntmps24
    go_wp2_with fail
    go_ret
    exact ⟨rfl, rfl⟩

section
variable {P : Program} (w : World)
/-- 'append(v, x)': v nil or the call's own, x one value of one cell that lies at 'ad'. -/
theorem wpList_append_one {ops : Array Oper} {rest : List Oper} {o : Oper} {a : Act} {Q : Exit → Act → World → Prop} (hgd : o.guard = none) (s x : Operand) (t : TypeId)
    (ho : o.op = .call { callee := .builtin .append, args := #[s, x], argTypes := #[t, t] })
    (base : Nat) (e : TypeId) (i : TypeInfo) (z : Value) (bytes : Nat) (ht : P.underlying t = some (.slice e)) (hi : P.info? e = some i) (hz : i.zero = some z)
    (hsize : i.size = 1) (hby : i.bytes = bytes) (hzs : z.cells.size = 1)
    (v : Value) (n : Nat) (xs : List Value) (hs : a.eval s = v) (hown : w.ownsRow base e 1 v n xs) (ad : Addr) (c : Nat) (y : Value) (hx : a.eval x = .slice (some ad) 1 c) (hy : w.cell? (ad.add 0) = some y) (hy1 : y.oneCell' = true)
    (h63 : n + 1 ≤ maxLen) (hbytes : (n + 1) * bytes ≤ 140737488355328) (hbase : base ≤ w.heap.size)
    (h : ∀ v' w', w'.ownsRow base e 1 v' (n + 1) (xs ++ [y]) → w.grownBy w' v.ownBlock → (v'.ownBlock = v.ownBlock ∨ v'.ownBlock = some w.heap.size) → wpList P ops Q rest (a.put o.dst v') w') : wpList P ops Q (o :: rest) a w := by
  refine wpList_plain hgd fun _ hK => ?_
  obtain ⟨v', w', hr, h2, h3, _, h4⟩ := run_append_own_at (P := P) w base t o.type e i z 1 bytes ht hi hz hsize hby hzs (by decide) v n xs hown ad 1 c [y] (by simp) (by
    intro j u hu
    cases j with
    | zero => simp at hu; subst hu; exact hy
    | succ j => simp at hu) (by intro u hu; simp at hu; subst hu; exact hy1) h63 hbytes hbase
  unfold Oper.wp execOp
  simp only [ho, resolve, invoke, builtin, Sem.run_bind, Sem.run_pure, Result.andThen_ok, List.map_toArray, List.map_cons, List.map_nil, hs, hx, hr]
  exact hK _ _ (h v' w' h2 h3 h4)
end

theorem Try.info_chunk : (Try.prog.info? 38).map (fun i => (i.zero, i.size, i.bytes)) = some (some (.agg #[.slice none 0 0]), 1, 24) := by kernel_rfl
end Go.Proofs.Ytmfacacpoajpgaa
