/- 'append' of numbers to a list of the call's own, as a step of a region that draws its order; a part of such a list. -/
import Derived.Test.YtngmggccijmhfaaApp
import Derived.Test.YtngmggccijmhfaaCalm
namespace Go.Proofs.Ytngmggccijmhfaa
set_option maxRecDepth 100000
open Go.RowKit
set_option linter.unusedVariables false
set_option linter.unusedSimpArgs false

theorem step_app_ints {ops : Array Oper} {o : Oper} {a : Act} {w : World} {K : Act → World → Prop} {Q : Exit → Act → World → Prop} {E0 : Prop}
    (hgd : o.guard = none) (s x : Operand)
    (ho : o.op = .call { callee := .builtin .append, args := #[s, x], argTypes := #[40, 40] }) {base n m c : Nat} {cs : List Value} {v : Value} {A : Option Addr} {ys : List Int}
    (hs : a.eval s = v) (hx : a.eval x = .slice A m c) (hy : Ints w A m ys) (hown : w.ownsRow base 3 1 v n cs) (hb : base ≤ w.heap.size) (hn : (n + m) * 8 ≤ 140737488355328)
    (hK : ∀ v' w', w'.ownsRow base 3 1 v' (n + m) (cs ++ ys.map (Value.int .i64)) → w.grownBy w' v.ownBlock → K (a.put o.dst v') w') :
    if Region.wanted o (yielded ops a.tmps) = true then Oper.wp Try.prog o a w K Q else E0 := by
  have hw : Region.wanted o (yielded ops a.tmps) = true := by simp [Region.wanted, hgd]
  rw [if_pos hw]
  obtain ⟨i0, hi0, hz0, hz1, hz2⟩ := info_parts int_info
  cases A with
  | none =>
    obtain rfl : m = 0 := by
      rcases Nat.eq_zero_or_pos m with h0 | h0
      · exact h0
      · obtain ⟨b, off, e, _⟩ := hy.2 h0; cases e
    obtain rfl : ys = [] := List.eq_nil_of_length_eq_zero hy.1
    have hrun : (Builtin.append_ #[40, 40] o.type #[v, .slice none 0 c]).run Try.prog w = .ok v w := by
      rcases hown.2 with ⟨rfl, rfl⟩ | ⟨g, cap, cur, rfl, _, _, hnc, _⟩
      · simp [Builtin.append_, run_underlying Try.underlying40, sizeOf, typeInfo, hi0, Builtin.lenOf, Builtin.firstCells]
      · simp [Builtin.append_, run_underlying Try.underlying40, sizeOf, typeInfo, hi0, Builtin.lenOf, Builtin.firstCells, hnc, storeCells]
    unfold Oper.wp
    simp [execOp, ho, resolve, invoke, builtin, hs, hx, hrun, Result.andThen]
    exact hK v w (by simpa using hown) (World.grownBy.refl w _)
  | some ad =>
    refine wp_append_own _ s x 40 ho base 3 i0 (.int .i64 0) 1 8 Try.underlying40 hi0 hz0 hz1 hz2 rfl (by decide) v n cs hs hown ad m c (ys.map (Value.int .i64)) hx (by simp [hy.1]) ?_ ?_ ?_ hn hb (fun v' w' h1 h2 _ => hK v' w' h1 h2)
    · intro j u hu
      rw [List.getElem?_map, Option.map_eq_some_iff] at hu
      obtain ⟨y, hy0, rfl⟩ := hu
      have hj : j < m := by have := (List.getElem?_eq_some_iff.1 hy0).1; have := hy.1; omega
      obtain ⟨b, off, e, _, hc⟩ := hy.2 (by omega)
      cases e
      rw [Addr.add_lit, hc j hj]
      simp [List.getD, hy0]
    · intro u hu; obtain ⟨y, _, rfl⟩ := List.mem_map.1 hu; rfl
    · unfold maxLen; omega

/-- The first j of a list of the call's own are one. -/
theorem own_first {w : World} {base e n d j : Nat} {B : Option Addr} {cs : List Value} (h : w.ownsRow base e 1 (.slice B n d) n cs) (hj : j ≤ n) : w.ownsRow base e 1 (.slice B j d) j (cs.take j) := by
  refine ⟨by have := h.1; rw [List.length_take]; omega, ?_⟩
  rcases h.2 with ⟨e0, h0⟩ | ⟨g, cap, cur, e0, hb, hg, hnc, hm, hs, ht⟩
  · injection e0 with e1 e2 e3
    subst e1; subst e3
    obtain rfl : j = 0 := by omega
    exact .inl ⟨rfl, rfl⟩
  · injection e0 with e1 e2 e3
    subst e1; subst e3
    refine .inr ⟨g, d, cur, rfl, hb, hg, by omega, hm, hs, ?_⟩
    rw [← ht, List.take_take, Nat.mul_one, Nat.mul_one, Nat.min_eq_left hj]
/-- What stands behind the first j of them reads as a list. -/
theorem Ints.behind {w : World} {A : Option Addr} {g off n j m : Nat} {xs : List Int} (h : Ints w (some ⟨g, off, none⟩) n xs) (hn : n = j + m) : Ints w (some ⟨g, off + j, none⟩) m (xs.drop j) := by
  subst hn
  refine ⟨by rw [List.length_drop, h.1]; omega, fun hm => ?_⟩
  obtain ⟨b, o, e, hlt, hc⟩ := h.2 (by omega)
  injection e with e
  injection e with e1 e2
  subst e1; subst e2
  refine ⟨g, off + j, rfl, hlt, fun i hi => ?_⟩
  rw [Nat.add_assoc, hc (j + i) (by omega)]
  simp [List.getD]
theorem Ints.no {w : World} {A : Option Addr} : Ints w A 0 [] := ⟨rfl, fun h => absurd h (by omega)⟩
/-- A list stays as it is, where another block than its own is grown. -/
theorem Ints.grown {w w' : World} {row : Option Nat} {A : Option Addr} {n : Nat} {xs : List Int} (h : Ints w A n xs) (hg : w.grownBy w' row) (hne : ∀ g off, A = some ⟨g, off, none⟩ → some g ≠ row) : Ints w' A n xs := by
  refine ⟨h.1, fun hn => ?_⟩
  obtain ⟨b, o, e, hlt, hc⟩ := h.2 hn
  refine ⟨b, o, e, Nat.lt_of_lt_of_le hlt hg.size, fun i hi => ?_⟩
  have h1 := hne b o e
  exact hg.cell (hc i hi) h1
end Go.Proofs.Ytngmggccijmhfaa
