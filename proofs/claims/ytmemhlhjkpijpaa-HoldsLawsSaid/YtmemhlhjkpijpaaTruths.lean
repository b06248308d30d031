/- A slice of truths that reads as a list; nil let in. And such a list of the call's own, grown by append. -/
import Derived.Test.YtmemhlhjkpijpaaLeaf
import Derived.Test.YtmemhlhjkpijpaaAt
import Derived.Deep.OwnRows
import Derived.OwnWalk
import Derived.Laws.OwnMore
namespace Go.Proofs.Ytmemhlhjkpijpaa
set_option maxRecDepth 100000
open Go.ChangeShapes Go.WideShapes Go.ChangeAt Go.RowKit Go.Deep
set_option linter.unusedVariables false
set_option linter.unusedSimpArgs false

def Truths (w : World) (A : Option Addr) (n : Nat) (ps : List Bool) : Prop :=
  ps.length = n ∧ (0 < n → ∃ b off, A = some ⟨b, off, Option.none⟩ ∧ b < w.heap.size ∧ ∀ i, i < n → w.cell? ⟨b, off + i, Option.none⟩ = some (.bool (ps.getD i false)))
theorem Truths.below {w w' : World} {A : Option Addr} {n : Nat} {ps : List Bool} (h : Truths w A n ps) (hb : Below w.heap.size w w') : Truths w' A n ps :=
  ⟨h.1, fun hn => by
    obtain ⟨b, off, rfl, hlt, hc⟩ := h.2 hn
    exact ⟨b, off, rfl, Nat.lt_of_lt_of_le hlt hb.size, fun i hi => (hb.cell (p := ⟨b, off + i, Option.none⟩) hlt).trans (hc i hi)⟩⟩
theorem Truths.at_ {w : World} {A : Option Addr} {n : Nat} {ps : List Bool} (h : Truths w A n ps) {i : Nat} (hi : i < n) : ∃ b off, A = some ⟨b, off, Option.none⟩ ∧ b < w.heap.size ∧ w.cell? ⟨b, off + i, Option.none⟩ = some (.bool (ps.getD i false)) := by
  obtain ⟨b, off, e, hb, hc⟩ := h.2 (by omega)
  exact ⟨b, off, e, hb, hc i hi⟩
theorem Truths.no {w : World} {A : Option Addr} : Truths w A 0 [] := ⟨rfl, fun h => absurd h (by omega)⟩
theorem Truths.of_rows {w : World} {A : Option Addr} {n : Nat} {rs : List (List Value)} (h : Rows [.bool] w A n rs) : ∃ ps, Truths w A n ps := by
  refine ⟨(List.range n).map (fun i => match (rs.getD i []).getD 0 undef with | .bool b => b | _ => false), by simp, fun hn => ?_⟩
  obtain ⟨b, off, e, hb, hc⟩ := h.2.2 hn
  refine ⟨b, off, e, hb, fun i hi => ?_⟩
  obtain ⟨_, hk⟩ := h.2.1 i hi
  obtain ⟨x, hx⟩ := hk 0 .bool rfl
  have h1 := hc i hi 0 (by simp)
  rw [hx] at h1
  have e1 : off + (i * [TypeDesc.bool].length + 0) = off + i := by simp
  rw [e1] at h1
  rw [h1]
  simp only [List.getD_eq_getElem?_getD] at hx
  simp [List.getD, hi, hx]
theorem Truths.of_own {w : World} {base e n : Nat} {A : Option Addr} {c : Nat} {ps : List Bool} (h : w.ownsRow base e 1 (.slice A n c) n (ps.map Value.bool)) (hn : ps.length = n) : Truths w A n ps := by
  refine ⟨hn, fun h0 => ?_⟩
  rcases h.2 with ⟨_, e⟩ | ⟨g, cap, cur, hv, _, hg, hnc, _, hsz, htk⟩
  · omega
  · have hA : A = some ⟨g, 0, Option.none⟩ := by injection hv
    subst hA
    have hlt : g < w.heap.size := by
      rcases Nat.lt_or_ge g w.heap.size with hlt | hge
      · exact hlt
      · rw [Array.getElem?_eq_none hge] at hg; cases hg
    refine ⟨g, 0, rfl, hlt, fun i hi => ?_⟩
    have hk := h.cellAt i (by omega)
    rw [Nat.zero_add, hk]
    simp [List.getD, List.getElem?_eq_getElem (show i < ps.length by omega)]

theorem truth_info : (Try.prog.info? 4).map (fun i => (i.zero, i.size, i.bytes)) = some (some (.bool false), 1, 1) := by kernel_rfl
theorem own_formT {w : World} {base e n : Nat} {v : Value} {cs : List Value} (h : w.ownsRow base e 1 v n cs) : ∃ B d, v = .slice B n d ∧ n ≤ d := by
  rcases h.2 with ⟨hv, h0⟩ | ⟨g, cap, cur, hv, _, _, hnc, _⟩
  · exact ⟨Option.none, 0, by rw [hv, h0], by omega⟩
  · exact ⟨_, _, hv, hnc⟩

theorem app_truth {ops : Array Oper} {rest : List Oper} {o : Oper} {a : Act} {Q : Exit → Act → World → Prop} {w : World} (hgd : o.guard = Option.none) (s x : Operand)
    (ho : o.op = .call { callee := .builtin .append, args := #[s, x], argTypes := #[40, 40] }) {base n : Nat} {cs : List Value} {v : Value} (y : Bool)
    (hs : a.eval s = v) (hx : a.eval x = .slice (some ⟨w.heap.size, 0, Option.none⟩) 1 1) (hown : w.ownsRow base 4 1 v n cs) (hb : base ≤ w.heap.size) (hn : n ≤ 17592186044414)
    (hK : ∀ v' w', w'.ownsRow base 4 1 v' (n + 1) (cs ++ [.bool y]) → (w.alloc (.cells #[.bool y] 4)).grownBy w' v.ownBlock → wpList Try.prog ops Q rest (a.put o.dst v') w') :
    wpList Try.prog ops Q (o :: rest) a (w.alloc (.cells #[.bool y] 4)) := by
  obtain ⟨i0, hi0, hz0, hz1, hz2⟩ := info_parts truth_info
  refine wpList_append_own _ hgd s x 40 ho base 4 i0 (.bool false) 1 1 Try.underlying40 hi0 hz0 hz1 hz2 rfl (by decide) v n cs hs (hown.alloc _) ⟨w.heap.size, 0, Option.none⟩ 1 1 [.bool y] hx rfl ?_ ?_ ?_ ?_ ?_ (fun v' w' h1 h2 _ => hK v' w' h1 h2)
  · intro j u hj
    match j, hj with
    | 0, hj => simp at hj; subst hj; simp [Addr.add]
  · intro u hu; simp at hu; subst hu; rfl
  · unfold maxLen; omega
  · omega
  · simp; omega
/-- 'append(out, l...)' of truths: what is put behind may be nil, or empty. -/
theorem app_truths {ops : Array Oper} {rest : List Oper} {o : Oper} {a : Act} {Q : Exit → Act → World → Prop} {w : World} (hgd : o.guard = Option.none) (s x : Operand)
    (ho : o.op = .call { callee := .builtin .append, args := #[s, x], argTypes := #[40, 40] }) {base n m c : Nat} {cs : List Value} {v : Value} {A : Option Addr} {ys : List Bool}
    (hs : a.eval s = v) (hx : a.eval x = .slice A m c) (hy : Truths w A m ys) (hown : w.ownsRow base 4 1 v n cs) (hb : base ≤ w.heap.size) (hn : n + m ≤ 140737488355328)
    (hK : ∀ v' w', w'.ownsRow base 4 1 v' (n + m) (cs ++ ys.map Value.bool) → w.grownBy w' v.ownBlock → wpList Try.prog ops Q rest (a.put o.dst v') w') :
    wpList Try.prog ops Q (o :: rest) a w := by
  obtain ⟨i0, hi0, hz0, hz1, hz2⟩ := info_parts truth_info
  cases A with
  | none =>
    obtain rfl : m = 0 := by
      rcases Nat.eq_zero_or_pos m with h0 | h0
      · exact h0
      · obtain ⟨b, off, e, _⟩ := hy.2 h0; cases e
    obtain rfl : ys = [] := List.eq_nil_of_length_eq_zero hy.1
    refine wpList_plain hgd fun K hK' => ?_
    have hrun : (Builtin.append_ #[40, 40] o.type #[v, .slice Option.none 0 c]).run Try.prog w = .ok v w := by
      rcases hown.2 with ⟨rfl, rfl⟩ | ⟨g, cap, cur, rfl, _, _, hnc, _⟩
      · simp [Builtin.append_, run_underlying Try.underlying40, sizeOf, typeInfo, hi0, Builtin.lenOf, Builtin.firstCells]
      · simp [Builtin.append_, run_underlying Try.underlying40, sizeOf, typeInfo, hi0, Builtin.lenOf, Builtin.firstCells, hnc, storeCells]
    unfold Oper.wp
    simp [execOp, ho, resolve, invoke, builtin, hs, hx, hrun, Result.andThen]
    exact hK' _ _ (hK v w (by simpa using hown) (World.grownBy.refl w _))
  | some ad =>
    refine wpList_append_own _ hgd s x 40 ho base 4 i0 (.bool false) 1 1 Try.underlying40 hi0 hz0 hz1 hz2 rfl (by decide) v n cs hs hown ad m c (ys.map Value.bool) hx (by simp [hy.1]) ?_ ?_ ?_ (by omega) hb (fun v' w' h1 h2 _ => hK v' w' h1 h2)
    · intro j u hu
      rw [List.getElem?_map, Option.map_eq_some_iff] at hu
      obtain ⟨y, hy0, rfl⟩ := hu
      have hj : j < m := by have := (List.getElem?_eq_some_iff.1 hy0).1; have := hy.1; omega
      obtain ⟨b, off, e, _, hc⟩ := hy.2 (by omega)
      cases e
      rw [Addr.add_lit, hc j hj]
      simp [List.getD, hy0]
    · intro u hu; obtain ⟨y, _, rfl⟩ := List.mem_map.1 hu; rfl
    · unfold maxLen; omega

/-- A list of truths that a call has put together so far. -/
def GrownT (w : World) (ys : List Bool) (v : Value) (wr : World) : Prop :=
  (∃ B d, v = .slice B ys.length d ∧ ys.length ≤ d) ∧ wr.ownsRow w.heap.size 4 1 v ys.length (ys.map Value.bool) ∧ Below w.heap.size w wr
theorem GrownT.form {w wr : World} {ys : List Bool} {v : Value} (h : GrownT w ys v wr) : ∃ B d, v = .slice B ys.length d ∧ ys.length ≤ d ∧ Truths wr B ys.length ys := by
  obtain ⟨⟨B, d, rfl, hd⟩, ho, _⟩ := h; exact ⟨B, d, rfl, hd, Truths.of_own ho rfl⟩
theorem GrownT.nil (w : World) : GrownT w [] (.slice Option.none 0 0) w :=
  ⟨⟨Option.none, 0, rfl, Nat.le_refl _⟩, by simpa using World.ownsRow_nil w w.heap.size 4 1, Below.refl _ _⟩
theorem GrownT.next {w wr w1 : World} {ys : List Bool} {v v' : Value} {x : Bool} {cs : Obj} (h : GrownT w ys v wr)
    (ho : w1.ownsRow w.heap.size 4 1 v' (ys.length + 1) (ys.map Value.bool ++ [.bool x])) (hg : (wr.alloc cs).grownBy w1 v.ownBlock) : GrownT w (ys ++ [x]) v' w1 := by
  obtain ⟨_, hown, hb⟩ := h
  refine ⟨by simpa using own_formT ho, by simpa using ho, (hb.alloc hb.size _).grown hg (by have := hb.size; simp; omega) (fun g hg => by have := (hown.lt g hg).1; omega)⟩
theorem GrownT.more {w wr w1 : World} {ys zs : List Bool} {v v' : Value} (h : GrownT w ys v wr)
    (ho : w1.ownsRow w.heap.size 4 1 v' (ys.length + zs.length) (ys.map Value.bool ++ zs.map Value.bool)) (hg : wr.grownBy w1 v.ownBlock) : GrownT w (ys ++ zs) v' w1 := by
  obtain ⟨_, hown, hb⟩ := h
  refine ⟨by simpa using own_formT ho, by simpa using ho, hb.grown hg (by have := hb.size; omega) (fun g hg => by have := (hown.lt g hg).1; omega)⟩
theorem GrownT.below {w wr w1 : World} {ys : List Bool} {v : Value} (h : GrownT w ys v wr) (hb : Below wr.heap.size wr w1) : GrownT w ys v w1 := by
  refine ⟨h.1, ⟨h.2.1.1, ?_⟩, Below.trans h.2.2 (hb.mono h.2.2.size)⟩
  rcases h.2.1.2 with h2 | ⟨g, cap, cur, hv, hg, hh, r⟩
  · exact .inl h2
  · exact .inr ⟨g, cap, cur, hv, hg, by rw [hb.block g (Array.getElem?_eq_some_iff.1 hh).1]; exact hh, r⟩
/-- 'make([]bool, n)'. -/
theorem make_truths {ops : Array Oper} {rest : List Oper} {o : Oper} {a : Act} {Q : Exit → Act → World → Prop} {w : World} (hgd : o.guard = Option.none) (l c : Operand) (ho : o.op = .makeSlice 40 l c) {L C : Int} (n : Nat)
    (hl : a.eval l = .int .i64 L) (hc : a.eval c = .int .i64 C) (hL : L = (n : Int)) (hC : C = (n : Int)) (hn : n ≤ 140737488355328)
    (hK : ∀ w', w'.ownsRow w.heap.size 4 1 (.slice (some ⟨w.heap.size, 0, Option.none⟩) n n) n ((List.replicate n false).map Value.bool) → Below w.heap.size w w' → wpList Try.prog ops Q rest (a.put o.dst (.slice (some ⟨w.heap.size, 0, Option.none⟩) n n)) w') :
    wpList Try.prog ops Q (o :: rest) a w := by
  obtain ⟨i0, hi0, hz0, hz1, hz2⟩ := info_parts truth_info
  refine wpList_make_full w hgd l c 40 ho w.heap.size 4 i0 (.bool false) 1 Try.underlying40 hi0 hz0 hz1 .i64 .i64 L C n hl hc hL hC (by rw [hz2]; omega) (by unfold maxLen; omega) (Nat.le_refl _) ?_
  intro w' h1 h2
  refine hK w' ?_ ((Below.refl _ _).grown h2 (Nat.le_refl _) (fun k hk => by cases hk))
  rw [Nat.mul_one, show (Value.bool false).cells = #[.bool false] from rfl, toList_madeCells_one] at h1
  rw [List.map_replicate]
  exact h1
/-- A store to such a list. -/
theorem own_set {w W : World} {base n d g : Nat} {ys : List Bool} (h : w.ownsRow base 4 1 (.slice (some ⟨g, 0, Option.none⟩) n d) n (ys.map Value.bool)) (hb : Below base W w) (i : Nat) (x : Bool) :
    (w.setCell ⟨g, i, Option.none⟩ (.bool x)).ownsRow base 4 1 (.slice (some ⟨g, 0, Option.none⟩) n d) n ((ys.set i x).map Value.bool) ∧ Below base W (w.setCell ⟨g, i, Option.none⟩ (.bool x)) := by
  obtain ⟨h1, h2⟩ := h.stored i (.bool x)
  refine ⟨by rw [List.map_set]; exact h1, hb.setCell (h.lt g rfl).1 _⟩
end Go.Proofs.Ytmemhlhjkpijpaa
