/- 'append' of what ticks told, to a list of the call's own. -/
import Derived.Test.YtmemhlhjkpijpaaLaw57
namespace Go.Proofs.Ytmemhlhjkpijpaa
open Go.RowKit
set_option linter.unusedVariables false
set_option linter.unusedSimpArgs false
set_option maxRecDepth 100000

def ou0 : Ou := ⟨0, 0, 0, 0, 0, 0, 0, 0, 0, false, ⟨#[]⟩⟩
theorem outs_info : (Try.prog.info? 29).map (fun i => (i.zero, i.size, i.bytes)) = some (some (.agg ou0.cells), 11, 96) := by kernel_rfl
/-- The cells of n ticks. -/
def ouL (os : Nat → Ou) : Nat → List Value
  | 0 => []
  | k + 1 => ouL os k ++ (os k).cells.toList
theorem ou_size (o : Ou) : o.cells.size = 11 := rfl
theorem ouL_len (os : Nat → Ou) : ∀ n, (ouL os n).length = n * 11
  | 0 => rfl
  | k + 1 => by unfold ouL; rw [List.length_append, ouL_len os k, Array.length_toList, ou_size]; omega
theorem ouL_at (os : Nat → Ou) : ∀ n i j, i < n → j < 11 → (ouL os n)[i * 11 + j]? = (os i).cells[j]?
  | k + 1, i, j, hi, hj => by
    have hl := ouL_len os k
    unfold ouL
    by_cases e : i = k
    · subst e
      rw [List.getElem?_append_right (by omega), show i * 11 + j - (ouL os i).length = j by omega, Array.getElem?_toList]
    · rw [List.getElem?_append_left (by omega)]
      exact ouL_at os k i j (by omega) hj
theorem ouL_one (os : Nat → Ou) : ∀ n, ∀ u ∈ ouL os n, u.oneCell' = true
  | 0, u, h => by simp [ouL] at h
  | k + 1, u, h => by
    unfold ouL at h
    rcases List.mem_append.1 h with h | h
    · exact ouL_one os k u h
    · unfold Ou.cells at h
      simp at h
      rcases h with rfl | rfl | rfl | rfl | rfl | rfl | rfl | rfl | rfl | rfl | rfl <;> rfl
def ouJ (os us : Nat → Ou) (n : Nat) : Nat → Ou := fun i => if i < n then os i else us (i - n)
theorem ouL_congr {os us : Nat → Ou} : ∀ {n}, (∀ i, i < n → os i = us i) → ouL os n = ouL us n
  | 0, _ => rfl
  | k + 1, h => by unfold ouL; rw [ouL_congr (n := k) (fun i hi => h i (by omega)), h k (by omega)]
theorem ouL_join (os us : Nat → Ou) (n : Nat) : ∀ m, ouL os n ++ ouL us m = ouL (ouJ os us n) (n + m)
  | 0 => by rw [show ouL us 0 = [] from rfl, List.append_nil]; exact ouL_congr (fun i hi => (if_pos hi).symm)
  | k + 1 => by
    show ouL os n ++ (ouL us k ++ _) = ouL (ouJ os us n) (n + k) ++ _
    rw [← List.append_assoc, ouL_join os us n k]
    have e : ouJ os us n (n + k) = us k := by
      unfold ouJ
      rw [if_neg (by omega), show n + k - n = k by omega]
    rw [show ouJ os us n (n.add k) = us k from e]
theorem own_formO {w : World} {base e s n : Nat} {v : Value} {cs : List Value} (h : w.ownsRow base e s v n cs) : ∃ B d, v = .slice B n d ∧ n ≤ d := by
  rcases h.2 with ⟨hv, h0⟩ | ⟨g, cap, cur, hv, _, _, hnc, _⟩
  · exact ⟨none, 0, by rw [hv, h0], by omega⟩
  · exact ⟨_, _, hv, hnc⟩
theorem Outs.of_own {w : World} {base n c : Nat} {A : Option Addr} {os : Nat → Ou} (h : w.ownsRow base 29 11 (.slice A n c) n (ouL os n)) : Outs w A n os := fun h0 => by
  rcases h.2 with ⟨_, e⟩ | ⟨g, cap, cur, hv, _, hg, hnc, _, hsz, htk⟩
  · omega
  · have hA : A = some ⟨g, 0, none⟩ := by injection hv
    subst hA
    refine ⟨g, 0, rfl, (Array.getElem?_eq_some_iff.1 hg).1, fun i hi j hj => ?_⟩
    have hl := ouL_len os n
    rw [Nat.zero_add, h.cellAt (i * 11 + j) (by omega)]
    exact ouL_at os n i j hi hj
theorem app_outs {ops : Array Oper} {rest : List Oper} {o : Oper} {a : Act} {Q : Exit → Act → World → Prop} {w : World} (hgd : o.guard = none) (s x : Operand)
    (ho : o.op = .call { callee := .builtin .append, args := #[s, x], argTypes := #[23, 23] }) {base n m c : Nat} {v : Value} {A : Option Addr} {os us : Nat → Ou}
    (hs : a.eval s = v) (hx : a.eval x = .slice A m c) (hy : Outs w A m us) (hown : w.ownsRow base 29 11 v n (ouL os n)) (hb : base ≤ w.heap.size) (hn : n + m ≤ 100000)
    (hK : ∀ B d w', w'.ownsRow base 29 11 (.slice B (n + m) d) (n + m) (ouL (ouJ os us n) (n + m)) → n + m ≤ d → w.grownBy w' v.ownBlock → wpList Try.prog ops Q rest (a.put o.dst (.slice B (n + m) d)) w') :
    wpList Try.prog ops Q (o :: rest) a w := by
  obtain ⟨i0, hi0, hz0, hz1, hz2⟩ := info_parts outs_info
  have hK2 : ∀ v' w', w'.ownsRow base 29 11 v' (n + m) (ouL os n ++ ouL us m) → w.grownBy w' v.ownBlock → wpList Try.prog ops Q rest (a.put o.dst v') w' := fun v' w' h1 h2 => by
    obtain ⟨B, d, rfl, hd⟩ := own_formO h1
    rw [ouL_join] at h1
    exact hK B d w' h1 hd h2
  cases A with
  | none =>
    obtain rfl : m = 0 := by
      rcases Nat.eq_zero_or_pos m with h0 | h0
      · exact h0
      · obtain ⟨b, off, e, _⟩ := hy h0; cases e
    refine wpList_plain hgd fun K hK' => ?_
    have hrun : (Builtin.append_ #[23, 23] o.type #[v, .slice none 0 c]).run Try.prog w = .ok v w := by
      rcases hown.2 with ⟨rfl, rfl⟩ | ⟨g, cap, cur, rfl, _, _, hnc, _⟩
      · simp [Builtin.append_, run_underlying Try.underlying23, sizeOf, typeInfo, hi0, Builtin.lenOf, Builtin.firstCells]
      · simp [Builtin.append_, run_underlying Try.underlying23, sizeOf, typeInfo, hi0, Builtin.lenOf, Builtin.firstCells, hnc, storeCells]
    unfold Oper.wp
    simp [execOp, ho, resolve, invoke, builtin, hs, hx, hrun, Result.andThen]
    exact hK' _ _ (hK2 v w (by simpa [ouL] using hown) (World.grownBy.refl w _))
  | some ad =>
    refine wpList_append_own _ hgd s x 23 ho base 29 i0 (.agg ou0.cells) 11 96 Try.underlying23 hi0 hz0 hz1 hz2 rfl (by decide) v n (ouL os n) hs hown ad m c (ouL us m) hx (ouL_len us m) ?_ (ouL_one us m) (by unfold maxLen; omega) (by omega) hb (fun v' w' h1 h2 _ => hK2 v' w' h1 h2)
    intro j u hu
    have hl := ouL_len us m
    have hj : j < m * 11 := by have := (List.getElem?_eq_some_iff.1 hu).1; omega
    obtain ⟨i, r, hr, rfl⟩ : ∃ i r, r < 11 ∧ j = i * 11 + r := ⟨j / 11, j % 11, by omega, by omega⟩
    obtain ⟨b, off, e, _, hc⟩ := hy (by omega)
    cases e
    rw [Addr.add_lit, ← Nat.add_assoc, hc i (by omega) r hr, ← ouL_at us m i r (by omega) hr]
    exact hu
end Go.Proofs.Ytmemhlhjkpijpaa
