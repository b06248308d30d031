/- 'append(out, x)' to a list of numbers that is the call's own: one rule without side goals but two bounds. -/
import Derived.Test.YtmemhlhjkpijpaaAt
import Derived.Test.YtmemhlhjkpijpaaLift
import Derived.ProofKit
namespace Go.Proofs.Ytmemhlhjkpijpaa
set_option maxRecDepth 100000
open Go.RowKit
set_option linter.unusedVariables false
set_option linter.unusedSimpArgs false

theorem int_info : (Try.prog.info? 3).map (fun i => (i.zero, i.size, i.bytes)) = some (some (.int .i64 0), 1, 8) := by kernel_rfl
theorem own_form {w : World} {base e n : Nat} {v : Value} {cs : List Value} (h : w.ownsRow base e 1 v n cs) : ∃ B d, v = .slice B n d ∧ n ≤ d := by
  rcases h.2 with ⟨hv, h0⟩ | ⟨g, cap, cur, hv, _, _, hnc, _⟩
  · exact ⟨none, 0, by rw [hv, h0], by omega⟩
  · exact ⟨_, _, hv, hnc⟩

theorem app_int {ops : Array Oper} {rest : List Oper} {o : Oper} {a : Act} {Q : Exit → Act → World → Prop} {w : World} (hgd : o.guard = none) (s x : Operand)
    (ho : o.op = .call { callee := .builtin .append, args := #[s, x], argTypes := #[49, 49] }) {base n : Nat} {cs : List Value} {v : Value} (y : Int)
    (hs : a.eval s = v) (hx : a.eval x = .slice (some ⟨w.heap.size, 0, none⟩) 1 1) (hown : w.ownsRow base 3 1 v n cs) (hb : base ≤ w.heap.size) (hn : n ≤ 17592186044414)
    (hK : ∀ v' w', w'.ownsRow base 3 1 v' (n + 1) (cs ++ [.int .i64 y]) → (w.alloc (.cells #[.int .i64 y] 3)).grownBy w' v.ownBlock → wpList Try.prog ops Q rest (a.put o.dst v') w') :
    wpList Try.prog ops Q (o :: rest) a (w.alloc (.cells #[.int .i64 y] 3)) := by
  obtain ⟨i0, hi0, hz0, hz1, hz2⟩ := info_parts int_info
  refine wpList_append_own _ hgd s x 49 ho base 3 i0 (.int .i64 0) 1 8 Try.underlying49 hi0 hz0 hz1 hz2 rfl (by decide) v n cs hs (hown.alloc _) ⟨w.heap.size, 0, none⟩ 1 1 [.int .i64 y] hx rfl ?_ ?_ ?_ ?_ ?_ (fun v' w' h1 h2 _ => hK v' w' h1 h2)
  · intro j u hj
    match j, hj with
    | 0, hj => simp at hj; subst hj; simp [Addr.add]
  · intro u hu; simp at hu; subst hu; rfl
  · unfold maxLen; omega
  · omega
  · simp; omega

/-- 'append(out, xs...)': what is put behind may be nil, or empty. -/
theorem app_ints {ops : Array Oper} {rest : List Oper} {o : Oper} {a : Act} {Q : Exit → Act → World → Prop} {w : World} (hgd : o.guard = none) (s x : Operand)
    (ho : o.op = .call { callee := .builtin .append, args := #[s, x], argTypes := #[49, 49] }) {base n m c : Nat} {cs : List Value} {v : Value} {A : Option Addr} {ys : List Int}
    (hs : a.eval s = v) (hx : a.eval x = .slice A m c) (hy : Ints w A m ys) (hown : w.ownsRow base 3 1 v n cs) (hb : base ≤ w.heap.size) (hn : (n + m) * 8 ≤ 140737488355328)
    (hK : ∀ v' w', w'.ownsRow base 3 1 v' (n + m) (cs ++ ys.map (Value.int .i64)) → w.grownBy w' v.ownBlock → wpList Try.prog ops Q rest (a.put o.dst v') w') :
    wpList Try.prog ops Q (o :: rest) a w := by
  obtain ⟨i0, hi0, hz0, hz1, hz2⟩ := info_parts int_info
  cases A with
  | none =>
    obtain rfl : m = 0 := by
      rcases Nat.eq_zero_or_pos m with h0 | h0
      · exact h0
      · obtain ⟨b, off, e, _⟩ := hy.2 h0; cases e
    obtain rfl : ys = [] := List.eq_nil_of_length_eq_zero hy.1
    refine wpList_plain hgd fun K hK' => ?_
    have hrun : (Builtin.append_ #[49, 49] o.type #[v, .slice none 0 c]).run Try.prog w = .ok v w := by
      rcases hown.2 with ⟨rfl, rfl⟩ | ⟨g, cap, cur, rfl, _, _, hnc, _⟩
      · simp [Builtin.append_, run_underlying Try.underlying49, sizeOf, typeInfo, hi0, Builtin.lenOf, Builtin.firstCells]
      · simp [Builtin.append_, run_underlying Try.underlying49, sizeOf, typeInfo, hi0, Builtin.lenOf, Builtin.firstCells, hnc, storeCells]
    unfold Oper.wp
    simp [execOp, ho, resolve, invoke, builtin, hs, hx, hrun, Result.andThen]
    exact hK' _ _ (hK v w (by simpa using hown) (World.grownBy.refl w _))
  | some ad =>
    refine wpList_append_own _ hgd s x 49 ho base 3 i0 (.int .i64 0) 1 8 Try.underlying49 hi0 hz0 hz1 hz2 rfl (by decide) v n cs hs hown ad m c (ys.map (Value.int .i64)) hx (by simp [hy.1]) ?_ ?_ ?_ hn hb (fun v' w' h1 h2 _ => hK v' w' h1 h2)
    · intro j u hu
      rw [List.getElem?_map, Option.map_eq_some_iff] at hu
      obtain ⟨y, hy0, rfl⟩ := hu
      have hj : j < m := by have := (List.getElem?_eq_some_iff.1 hy0).1; have := hy.1; omega
      obtain ⟨b, off, e, _, hc⟩ := hy.2 (by omega)
      cases e
      rw [Addr.add_lit, hc j hj]
      simp [List.getD, hy0]
    · intro u hu; obtain ⟨y, _, rfl⟩ := List.mem_map.1 hu; rfl
    · unfold maxLen; omega
end Go.Proofs.Ytmemhlhjkpijpaa
