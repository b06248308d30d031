/- Lists of the call's own, grown by append, of whatever values of one cell; and such a list as it lies. -/
import Derived.Test.YtaccamlplikkfaaGreatDoorTri
import Derived.Test.YtaccamlplikkfaaGreatDoorCol
namespace Go.Proofs.YtaccamlplikkfaaGreatDoor
set_option maxRecDepth 100000
open Go.RowKit
set_option linter.unusedVariables false
set_option linter.unusedSimpArgs false

theorem app_val_at {ops : Array Oper} {rest : List Oper} {o : Oper} {a : Act} {Q : Exit → Act → World → Prop} {w : World} (hgd : o.guard = none) (s x : Operand) (t e : TypeId) (z : Value) (bytes : Nat)
    (ho : o.op = .call { callee := .builtin .append, args := #[s, x], argTypes := #[t, t] }) (ht : Tryz.prog.underlying t = some (.slice e)) (hinfo : (Tryz.prog.info? e).map (fun i => (i.zero, i.size, i.bytes)) = some (some z, 1, bytes)) (hz1 : z.cells.size = 1)
    {base n : Nat} {cs : List Value} {v : Value} (y : Value) (hy : y.oneCell' = true)
    (hs : a.eval s = v) (hx : a.eval x = .slice (some ⟨w.heap.size, 0, none⟩) 1 1) (hown : w.ownsRow base e 1 v n cs) (hb : base ≤ w.heap.size) (hn : n < 9223372036854775807) (hn2 : (n + 1) * bytes ≤ 140737488355328)
    (hK : ∀ v' w', w'.ownsRow base e 1 v' (n + 1) (cs ++ [y]) → (w.alloc (.cells #[y] e)).grownBy w' v.ownBlock → (v'.ownBlock = v.ownBlock ∨ v'.ownBlock = some (w.heap.size + 1)) → wpList Tryz.prog ops Q rest (a.put o.dst v') w') :
    wpList Tryz.prog ops Q (o :: rest) a (w.alloc (.cells #[y] e)) := by
  obtain ⟨i0, hi0, hz0, hz2, hz3⟩ := info_parts hinfo
  refine wpList_append_own_at _ hgd s x t ho base e i0 z 1 bytes ht hi0 hz0 hz2 hz3 hz1 (by decide) v n cs hs (hown.alloc _) ⟨w.heap.size, 0, none⟩ 1 1 [y] hx rfl ?_ ?_ ?_ hn2 ?_ (fun v' w' h1 h2 _ h4 => hK v' w' h1 h2 (by simpa using h4))
  · intro j u hj
    match j, hj with
    | 0, hj => simp at hj; subst hj; simp [Addr.add]
  · intro u hu; simp at hu; subst hu; exact hy
  · unfold maxLen; omega
  · simp; omega

theorem step_app_at {ops : Array Oper} {o : Oper} {a : Act} {w : World} {K : Act → World → Prop} {Q : Exit → Act → World → Prop} {E0 : Prop} (hgd : o.guard = none) (s x : Operand) (t e : TypeId) (z : Value) (bytes : Nat)
    (ho : o.op = .call { callee := .builtin .append, args := #[s, x], argTypes := #[t, t] }) (ht : Tryz.prog.underlying t = some (.slice e)) (hinfo : (Tryz.prog.info? e).map (fun i => (i.zero, i.size, i.bytes)) = some (some z, 1, bytes)) (hz1 : z.cells.size = 1)
    {base n : Nat} {cs : List Value} {v : Value} (y : Value) (hy : y.oneCell' = true)
    (hs : a.eval s = v) (hx : a.eval x = .slice (some ⟨w.heap.size, 0, none⟩) 1 1) (hown : w.ownsRow base e 1 v n cs) (hb : base ≤ w.heap.size) (hn : n < 9223372036854775807) (hn2 : (n + 1) * bytes ≤ 140737488355328)
    (hK : ∀ v' w', w'.ownsRow base e 1 v' (n + 1) (cs ++ [y]) → (w.alloc (.cells #[y] e)).grownBy w' v.ownBlock → (v'.ownBlock = v.ownBlock ∨ v'.ownBlock = some (w.heap.size + 1)) → K (a.put o.dst v') w') :
    if Region.wanted o (yielded ops a.tmps) = true then Oper.wp Tryz.prog o a (w.alloc (.cells #[y] e)) K Q else E0 := by
  have hw : Region.wanted o (yielded ops a.tmps) = true := by simp [Region.wanted, hgd]
  rw [if_pos hw]
  obtain ⟨i0, hi0, hz0, hz2, hz3⟩ := info_parts hinfo
  obtain ⟨v', w', hr, h2, h3, _, h5⟩ := run_append_own_at (P := Tryz.prog) (w.alloc (.cells #[y] e)) base t o.type e i0 z 1 bytes ht hi0 hz0 hz2 hz3 hz1 (by decide) v n cs (hown.alloc _) ⟨w.heap.size, 0, none⟩ 1 1 [y] rfl (by
    intro j u hj
    match j, hj with
    | 0, hj => simp at hj; subst hj; simp [Addr.add]) (by intro u hu; simp at hu; subst hu; exact hy) (by unfold maxLen; omega) hn2 (by simp; omega)
  unfold Oper.wp execOp
  simp only [ho, resolve, invoke, builtin, Sem.run_bind, Sem.run_pure, Result.andThen_ok, List.map_toArray, List.map_cons, List.map_nil, hs, hx, hr]
  exact hK _ _ h2 h3 (by simpa using h5)

/-- A list that a call has put together so far. -/
structure GrV (e : TypeId) (w : World) (vs : List Value) (v : Value) (wr : World) : Prop where
  own : wr.ownsRow w.heap.size e 1 v vs.length vs
  bel : Below w.heap.size w wr
namespace GrV
variable {e : TypeId} {w wr w1 : World} {vs : List Value} {v v' : Value}
theorem nil (e : TypeId) (w : World) : GrV e w [] (.slice none 0 0) w := ⟨World.ownsRow_nil _ _ _ _, Below.refl _ _⟩
theorem nil_at (e : TypeId) {w wr : World} (h : Below w.heap.size w wr) : GrV e w [] (.slice none 0 0) wr := ⟨World.ownsRow_nil _ _ _ _, h⟩
theorem below (h : GrV e w vs v wr) (hb : Below wr.heap.size wr w1) : GrV e w vs v w1 := by
  refine ⟨⟨h.own.1, ?_⟩, Below.trans h.bel (hb.mono h.bel.size)⟩
  rcases h.own.2 with h2 | ⟨g, cap, cur, hv, hg, hh, r⟩
  · exact .inl h2
  · exact .inr ⟨g, cap, cur, hv, hg, by rw [hb.block g (Array.getElem?_eq_some_iff.1 hh).1]; exact hh, r⟩
theorem next {x : Value} {o : Obj} (h : GrV e w vs v wr) (ho : w1.ownsRow w.heap.size e 1 v' (vs.length + 1) (vs ++ [x])) (hg : (wr.alloc o).grownBy w1 v.ownBlock) : GrV e w (vs ++ [x]) v' w1 :=
  ⟨by simpa using ho, Tri.bel_next h.bel h.own hg⟩
theorem form (h : GrV e w vs v wr) : ∃ B d, v = .slice B vs.length d ∧ vs.length ≤ d := own_form h.own
end GrV

/-- Values of one cell each, as they lie side by side. -/
def Vals (w : World) (A : Option Addr) (n : Nat) (F : Nat → Value) : Prop := 0 < n → ∃ b off, A = some ⟨b, off, none⟩ ∧ b < w.heap.size ∧ ∀ i, i < n → w.cell? ⟨b, off + i, none⟩ = some (F i)
theorem Vals.below {w w' : World} {A : Option Addr} {n : Nat} {F : Nat → Value} (h : Vals w A n F) (hb : Below w.heap.size w w') : Vals w' A n F := fun h0 => by
  obtain ⟨b, off, e, hl, hc⟩ := h h0
  exact ⟨b, off, e, Nat.lt_of_lt_of_le hl hb.size, fun i hi => (hb.cell (p := ⟨b, off + i, none⟩) hl).trans (hc i hi)⟩
theorem Vals.congr {w : World} {A : Option Addr} {n : Nat} {F G : Nat → Value} (h : Vals w A n F) (e : ∀ i, i < n → F i = G i) : Vals w A n G := fun h0 => by
  obtain ⟨b, off, ea, hl, hc⟩ := h h0
  exact ⟨b, off, ea, hl, fun i hi => by rw [← e i hi]; exact hc i hi⟩
theorem Vals.of_own {w : World} {base e n : Nat} {A : Option Addr} {c : Nat} {vs : List Value} (h : w.ownsRow base e 1 (.slice A n c) n vs) : Vals w A n (fun i => vs.getD i undef) := fun h0 => by
  have hl := h.1
  rcases h.2 with ⟨e0, h1⟩ | ⟨g, cap, cur, hv, _, hg, hnc, _, hsz, htk⟩
  · omega
  · have hA : A = some ⟨g, 0, none⟩ := by injection hv
    subst hA
    refine ⟨g, 0, rfl, (Array.getElem?_eq_some_iff.1 hg).1, fun i hi => ?_⟩
    have hk := h.cellAt i (by omega)
    rw [Nat.zero_add, hk]
    simp [List.getD, List.getElem?_eq_getElem (show i < vs.length by omega)]
theorem Vals.col {w : World} {g n : Nat} {F : Nat → Value} (h : Col w g n F) : Vals w (some ⟨g, 0, none⟩) n F := fun _ => ⟨g, 0, rfl, h.lt, fun i hi => by rw [Nat.zero_add]; exact h.cell i hi⟩
end Go.Proofs.YtaccamlplikkfaaGreatDoor
