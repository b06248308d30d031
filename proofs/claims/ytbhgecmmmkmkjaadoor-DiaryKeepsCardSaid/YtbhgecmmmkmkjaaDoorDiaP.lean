/- Contracts of package diary: Push. -/
import Derived.Test.YtbhgecmmmkmkjaaDoorDia
import Derived.BigRegion
import Derived.Deep.RegionLaw
import Derived.Laws.AppendOwn
namespace Go.Proofs.YtbhgecmmmkmkjaaDoor
open Go.RowKit Go.Deep
set_option linter.unusedVariables false
set_option linter.unusedSimpArgs false
set_option maxRecDepth 100000
attribute [local go_sem] cell_set_ite Near.cell Near.frozen

/-- 'append' of one note, as a step of a region that draws. -/
theorem step_note {ops : Array Oper} {o : Oper} {a : Act} {w : World} {K : Act → World → Prop} {Q : Exit → Act → World → Prop} {E0 : Prop}
    (hgd : o.guard = none) (s x : Operand)
    (ho : o.op = .call { callee := .builtin .append, args := #[s, x], argTypes := #[29, 29] }) {base n : Nat} {cs : List Value} {v : Value} (y0 y1 y2 : Int)
    (hs : a.eval s = v) (hx : a.eval x = .slice (some ⟨w.heap.size, 0, none⟩) 1 1) (hown : w.ownsRow base 31 3 v n cs) (hb : base ≤ w.heap.size) (hn : n ≤ 1000000)
    (hK : ∀ v' w', w'.ownsRow base 31 3 v' (n + 1) (cs ++ [.int .i64 y0, .int .i64 y1, .int .i64 y2]) → (w.alloc (.cells #[.int .i64 y0, .int .i64 y1, .int .i64 y2] 31)).grownBy w' v.ownBlock → K (a.put o.dst v') w') :
    if Region.wanted o (yielded ops a.tmps) = true then Oper.wp Tryd.prog o a (w.alloc (.cells #[.int .i64 y0, .int .i64 y1, .int .i64 y2] 31)) K Q else E0 := by
  have hw : Region.wanted o (yielded ops a.tmps) = true := by simp [Region.wanted, hgd]
  rw [if_pos hw]
  obtain ⟨i0, hi0, hz0, hz1, hz2⟩ := info_parts note_info
  refine wp_append_own _ s x 29 ho base 31 i0 _ 3 24 Tryd.underlying29 hi0 hz0 hz1 hz2 rfl (by decide) v n cs hs (hown.alloc _) ⟨w.heap.size, 0, none⟩ 1 1 [.int .i64 y0, .int .i64 y1, .int .i64 y2] hx rfl ?_ ?_ ?_ ?_ ?_ (fun v' w' h1 h2 _ => hK v' w' h1 h2)
  · intro j u hj
    match j, hj with
    | 0, hj => simp at hj; subst hj; simp [Addr.add]
    | 1, hj => simp at hj; subst hj; simp [Addr.add]
    | 2, hj => simp at hj; subst hj; simp [Addr.add]
  · intro u hu
    simp at hu
    rcases hu with rfl | rfl | rfl <;> rfl
  · unfold maxLen; omega
  · omega
  · simp; omega
theorem ntL_mem {l : List Nt} {u : Value} (h : u ∈ ntL l) : u.oneCell' = true := by
  induction l with
  | nil => cases h
  | cons x l ih =>
    rw [ntL, List.mem_append] at h
    rcases h with h | h
    · simp [ntC] at h
      rcases h with rfl | rfl | rfl <;> rfl
    · exact ih h
theorem Notes.cell {w : World} {b off n : Nat} {l : List Nt} (h : Notes w (some ⟨b, off, none⟩) n l) {j : Nat} {u : Value} (hu : (ntL l)[j]? = some u) : w.cell? ⟨b, off + j, none⟩ = some u := by
  have hj : j < l.length * 3 := by have := (List.getElem?_eq_some_iff.1 hu).1; rw [ntL_len] at this; exact this
  have hn : j / 3 < n := by have := h.1; omega
  obtain ⟨b', off', e, _, c0, c1, c2⟩ := h.at_ hn
  injection e with e
  injection e with e1 e2
  subst e1 e2
  have hg := ntL_get (i := j / 3) (j := j % 3) (by omega) l (by omega)
  rw [show j / 3 * 3 + j % 3 = j by omega, hu] at hg
  rcases (by omega : j % 3 = 0 ∨ j % 3 = 1 ∨ j % 3 = 2) with e | e | e
  · rw [e] at hg
    rw [show off + j = off + j / 3 * 3 by omega, c0, hg]; rfl
  · rw [e] at hg
    rw [show off + j = off + j / 3 * 3 + 1 by omega, c1, hg]; rfl
  · rw [e] at hg
    rw [show off + j = off + j / 3 * 3 + 2 by omega, c2, hg]; rfl
/-- 'append' of a list of notes, as a step of a region that draws. -/
theorem step_notes {ops : Array Oper} {o : Oper} {a : Act} {w : World} {K : Act → World → Prop} {Q : Exit → Act → World → Prop} {E0 : Prop}
    (hgd : o.guard = none) (s x : Operand)
    (ho : o.op = .call { callee := .builtin .append, args := #[s, x], argTypes := #[29, 29] }) {base n m c : Nat} {cs : List Value} {v : Value} {A : Option Addr} {l : List Nt}
    (hs : a.eval s = v) (hx : a.eval x = .slice A m c) (hy : Notes w A m l) (hown : w.ownsRow base 31 3 v n cs) (hb : base ≤ w.heap.size) (hn : n + m ≤ 1000000)
    (hK : ∀ v' w', w'.ownsRow base 31 3 v' (n + m) (cs ++ ntL l) → w.grownBy w' v.ownBlock → K (a.put o.dst v') w') :
    if Region.wanted o (yielded ops a.tmps) = true then Oper.wp Tryd.prog o a w K Q else E0 := by
  have hw : Region.wanted o (yielded ops a.tmps) = true := by simp [Region.wanted, hgd]
  rw [if_pos hw]
  obtain ⟨i0, hi0, hz0, hz1, hz2⟩ := info_parts note_info
  cases A with
  | none =>
    obtain rfl : m = 0 := by
      rcases Nat.eq_zero_or_pos m with h0 | h0
      · exact h0
      · obtain ⟨b, off, e, _⟩ := hy.2 h0; cases e
    obtain rfl : l = [] := List.eq_nil_of_length_eq_zero hy.1
    have hrun : (Builtin.append_ #[29, 29] o.type #[v, .slice none 0 c]).run Tryd.prog w = .ok v w := by
      rcases hown.2 with ⟨rfl, rfl⟩ | ⟨g, cap, cur, rfl, _, _, hnc, _⟩
      · simp [Builtin.append_, run_underlying Tryd.underlying29, sizeOf, typeInfo, hi0, Builtin.lenOf, Builtin.firstCells]
      · simp [Builtin.append_, run_underlying Tryd.underlying29, sizeOf, typeInfo, hi0, Builtin.lenOf, Builtin.firstCells, hnc, storeCells]
    unfold Oper.wp
    simp [execOp, ho, resolve, invoke, builtin, hs, hx, hrun, Result.andThen]
    exact hK v w (by simpa [ntL] using hown) (World.grownBy.refl w _)
  | some ad =>
    refine wp_append_own _ s x 29 ho base 31 i0 _ 3 24 Tryd.underlying29 hi0 hz0 hz1 hz2 rfl (by decide) v n cs hs hown ad m c (ntL l) hx (by rw [ntL_len, hy.1]) ?_ (fun u hu => ntL_mem hu) ?_ ?_ hb (fun v' w' h1 h2 _ => hK v' w' h1 h2)
    · intro j u hu
      have hj : j < l.length * 3 := by have := (List.getElem?_eq_some_iff.1 hu).1; rw [ntL_len] at this; exact this
      obtain ⟨b, off, e, _⟩ := hy.2 (by have := hy.1; omega)
      cases e
      rw [Addr.add_lit]
      exact hy.cell hu
    · unfold maxLen; omega
    · omega

/-- The same, where the note's own slice was laid some time ago. -/
theorem step_note2 {ops : Array Oper} {o : Oper} {a : Act} {w : World} {K : Act → World → Prop} {Q : Exit → Act → World → Prop} {E0 : Prop}
    (hgd : o.guard = none) (s x : Operand)
    (ho : o.op = .call { callee := .builtin .append, args := #[s, x], argTypes := #[29, 29] }) {base n q : Nat} {cs : List Value} {v : Value} (y0 y1 y2 : Int)
    (hs : a.eval s = v) (hx : a.eval x = .slice (some ⟨q, 0, none⟩) 1 1) (c0 : w.cell? ⟨q, 0, none⟩ = some (.int .i64 y0)) (c1 : w.cell? ⟨q, 1, none⟩ = some (.int .i64 y1)) (c2 : w.cell? ⟨q, 2, none⟩ = some (.int .i64 y2)) (hown : w.ownsRow base 31 3 v n cs) (hb : base ≤ w.heap.size) (hn : n ≤ 1000000)
    (hK : ∀ v' w', w'.ownsRow base 31 3 v' (n + 1) (cs ++ [.int .i64 y0, .int .i64 y1, .int .i64 y2]) → w.grownBy w' v.ownBlock → K (a.put o.dst v') w') :
    if Region.wanted o (yielded ops a.tmps) = true then Oper.wp Tryd.prog o a w K Q else E0 := by
  have hw : Region.wanted o (yielded ops a.tmps) = true := by simp [Region.wanted, hgd]
  rw [if_pos hw]
  obtain ⟨i0, hi0, hz0, hz1, hz2⟩ := info_parts note_info
  refine wp_append_own _ s x 29 ho base 31 i0 _ 3 24 Tryd.underlying29 hi0 hz0 hz1 hz2 rfl (by decide) v n cs hs hown ⟨q, 0, none⟩ 1 1 [.int .i64 y0, .int .i64 y1, .int .i64 y2] hx rfl ?_ ?_ ?_ ?_ hb (fun v' w' h1 h2 _ => hK v' w' h1 h2)
  · intro j u hj
    match j, hj with
    | 0, hj => simp at hj; subst hj; exact c0
    | 1, hj => simp at hj; subst hj; exact c1
    | 2, hj => simp at hj; subst hj; exact c2
  · intro u hu
    simp at hu
    rcases hu with rfl | rfl | rfl <;> rfl
  · unfold maxLen; omega
  · omega
theorem own_made {base : Nat} (w : World) (e : TypeId) (z : Array Value) (c : Nat) (hc : c ≤ maxLen) (hb : base ≤ w.heap.size) : (w.alloc (.cells (madeCells z (c * 3)) e)).ownsRow base e 3 (.slice (some ⟨w.heap.size, 0, none⟩) 0 c) 0 [] :=
  ⟨rfl, .inr ⟨w.heap.size, c, madeCells z (c * 3), rfl, hb, heap_alloc_new w _, Nat.zero_le _, hc, by simp [madeCells], rfl⟩⟩
theorem Notes.drop {w : World} {b off n : Nat} {l : List Nt} (h : Notes w (some ⟨b, off, none⟩) n l) {r : Nat} (hr : r ≤ n) : Notes w (some ⟨b, off + r * 3, none⟩) (n - r) (l.drop r) := by
  refine ⟨by have := h.1; simp; omega, fun h0 => ?_⟩
  obtain ⟨b', off', e, hl, hc⟩ := h.2 (by omega)
  injection e with e
  injection e with e1 e2
  subst e1 e2
  refine ⟨b, off + r * 3, rfl, hl, fun i hi => ?_⟩
  have := hc (r + i) (by omega)
  rw [show off + r * 3 + i * 3 = off + (r + i) * 3 by omega]
  have e : (l.drop r).getD i nt0 = l.getD (r + i) nt0 := by simp [List.getD, List.getElem?_drop]
  rw [e]
  exact this
theorem cell_kept {w w1 : World} {o : Obj} {v : Value} {base e n sz : Nat} {cs : List Value} (ho : w.ownsRow base e sz v n cs) (hg : (w.alloc o).grownBy w1 v.ownBlock) (i : Nat) : w1.cell? ⟨w.heap.size, i, none⟩ = (w.alloc o).cell? ⟨w.heap.size, i, none⟩ := by
  have := hg.block w.heap.size (by simp) (fun e => by have := (ho.lt _ e.symm).2; omega)
  unfold World.cell?
  rw [this]

theorem own_at {w w1 : World} {base e n sz : Nat} {g : Nat} {c : Nat} {cs : List Value} (h : w.ownsRow base e sz (.slice (some ⟨w1.heap.size, 0, none⟩) n c) n cs) (hg : w1.heap.size = g) : w.ownsRow base e sz (.slice (some ⟨g, 0, none⟩) n c) n cs := hg ▸ h
theorem Box.of_block {w w' : World} {g : Nat} {cs : Array Value} (h : Box w g cs) (e : w'.heap[g]? = w.heap[g]?) : Box w' g cs := by
  refine ⟨?_, fun i => ?_, fun i => ?_⟩
  · have h1 := h.1
    rw [Array.getElem?_eq_getElem h1] at e
    exact (Array.getElem?_eq_some_iff.1 e).1
  · rw [← h.2.1 i]; unfold World.cell?; rw [e]
  · rw [← h.2.2 i]; unfold World.frozen?; rw [e]

/-- The end of Push: the notes that are kept, and one more, put into the room that was made. -/
theorem NewNotes.done {w w' : World} {v : Value} {L : List Nt} {base : Nat} (h : w'.ownsRow base 31 3 v L.length (ntL L)) (hb : Below w.heap.size w w') : NewNotes w L (.returned v) w' := by
  obtain ⟨B, d, rfl, hd, hN⟩ := Notes.of_own h rfl
  exact ⟨B, d, rfl, hd, hN, hb⟩
theorem ntL_one (L : List Nt) (x : Nt) : ntL L ++ [.int .i64 x.t, .int .i64 x.w, .int .i64 x.a] = ntL (L ++ [x]) := by rw [ntL_app]; rfl

theorem push_end {w w4 : World} {v : Value} {L M : List Nt} {base k : Nat} {x : Nt} (hLk : L.length = k) (o : w4.ownsRow base 31 3 v (k + 1) (ntL L ++ [.int .i64 x.t, .int .i64 x.w, .int .i64 x.a])) (A : Below w.heap.size w w4) (h : M = L ++ [x]) : NewNotes w M (.returned v) w4 := by
  subst h
  rw [ntL_one] at o
  exact NewNotes.done (base := base) (by rw [List.length_append, hLk]; exact o) A

set_option maxHeartbeats 8000000 in
theorem di_push (A : Option Addr) (n c : Nat) (l : List Nt) (xt xw xa : Int) (w : World) (h : Notes w A n l) (hc : n ≤ c) (hn : n ≤ 1000) : Calls Tryd.prog 14 #[.slice A n c, .agg #[.int .i64 xt, .int .i64 xw, .int .i64 xa]] w (NewNotes w (pushN l ⟨xt, xw, xa⟩)) := by
  have hlen := h.1
  obtain ⟨r, hr⟩ : ∃ r : Nat, n - 31 = r := ⟨_, rfl⟩
  have HP := Lib.hid (show pushN l ⟨xt, xw, xa⟩ = l.drop r ++ [⟨xt, xw, xa⟩] by unfold pushN; rw [hlen, hr])
  have w1 : IntKind.i64.wrap ((n : Int) - 31) = (n : Int) - 31 := by rw [IntKind.wrap_i64]; omega
  have hs : (0 < r ∧ (n : Int) - 31 = (r : Int)) ∨ (r = 0 ∧ (n : Int) - 31 ≤ 0) := by omega
  have hrn : r ≤ n := by omega
  obtain ⟨i0, hi0, hz0, hz1, hz2⟩ := info_parts note_info
  have HMK := fun w (k : Nat) (hk : k ≤ 10000) => run_make (P := Tryd.prog) w 29 31 i0 _ Tryd.underlying29 hi0 hz0 .i64 .i64 0 (k : Int) (by omega) (by omega) (by rw [hz2]; omega) (by omega)
  simp only [hz1, Int.toNat_natCast] at HMK
  clear hr hz0 hz1 hz2 hi0
  rcases hs with ⟨hs0, hs⟩ | ⟨R0, hs⟩
  · obtain ⟨b, off, rfl, _⟩ := h.2 (by omega)
    have HY := Lib.hid (h.drop hrn)
    obtain ⟨L, hL⟩ : ∃ L, l.drop r = L := ⟨_, rfl⟩
    rw [hL] at HY HP
    obtain ⟨k, hk⟩ : ∃ k, n - r = k := ⟨_, rfl⟩
    rw [hk] at HY
    have hLk := HY.out.1
    have hmk := fun w => HMK w (k + 1) (by omega)
    simp only [show ((k + 1 : Nat) : Int) = (k : Int) + 1 from rfl] at hmk
    have wk : IntKind.i64.wrap ((k : Int) + 1) = (k : Int) + 1 := by rw [IntKind.wrap_i64]; omega
    have hk1 : k ≤ 1000 := by omega
    have hml : k + 1 ≤ maxLen := by unfold maxLen; omega
    clear HMK
    go_enter Tryd.func14, Tryd.ntmps14
    go_upto_region 3 with (fail)
    refine at_world (fun W => Below w.heap.size w W ∧ Box W w.heap.size #[.int .i64 xt, .int .i64 xw, .int .i64 xa] ∧ W.ownsRow w.heap.size 31 3 (.slice (some ⟨w.heap.size + 1, 0, none⟩) 0 (k + 1)) 0 [] ∧ Notes W (some ⟨b, off + r * 3, none⟩) k L) ⟨by (repeat (first | (with_reducible exact Below.refl _ _) | (with_reducible assumption) | (with_reducible refine Near.up _ ?_) | (with_reducible refine Below.drew ?_) | (with_reducible refine below_alloc_on ?_ _) | (with_reducible refine below_set_on ?_ (by first | (simp; done) | (simp; omega) | omega) _))), (box_new _ _ _).alloc _, own_at (own_made _ _ _ _ hml (by simp)) (by simp), (HY.out.below (by (repeat (first | (with_reducible exact Below.refl _ _) | (with_reducible assumption) | (with_reducible refine Near.up _ ?_) | (with_reducible refine Below.drew ?_) | (with_reducible refine below_alloc_on ?_ _) | (with_reducible refine below_set_on ?_ (by first | (simp; done) | (simp; omega) | omega) _)))))⟩ ?_
    obtain ⟨xb, hxb⟩ : ∃ xb, w.heap.size = xb := ⟨_, rfl⟩
    obtain ⟨g, hg⟩ : ∃ g, w.heap.size + 1 = g := ⟨_, rfl⟩
    have A0 : Below w.heap.size w w := Below.refl _ _
    simp only [hg]
    have hbs : w.heap.size ≤ g := by omega
    clear HY hmk
    rintro w0 ⟨A1, BX, OWN, NY⟩
    have hsz := A1.size
    rw [hxb] at BX
    simp only [hxb]
    have hxs : w.heap.size ≤ xb := by omega
    have hxg : xb ≠ g := by omega
    clear hg hxb
    obtain ⟨z0, z1, z2, zf, zl⟩ := BX.three
    have HOW := Lib.hid OWN
    have HNY := Lib.hid NY
    have hkk : 0 + k ≤ 1000000 := by omega
    have hk2 : k ≤ 1000000 := by omega
    clear OWN NY
    have A1d : Below w.heap.size w w0.drew := by (repeat (first | (with_reducible exact Below.refl _ _) | (with_reducible assumption) | (with_reducible refine Near.up _ ?_) | (with_reducible refine Below.drew ?_) | (with_reducible refine below_alloc_on ?_ _) | (with_reducible refine below_set_on ?_ (by first | (simp; done) | (simp; omega) | omega) _)))
    have BXd : Box w0.drew xb #[.int .i64 xt, .int .i64 xw, .int .i64 xa] := BX
    have NYa : Notes (w0.alloc (.cells #[.int .i64 xt, .int .i64 xw, .int .i64 xa] 31)).drew (some ⟨b, off + r * 3, none⟩) k L := by
      have bq : Below w0.heap.size w0 (w0.alloc (.cells #[.int .i64 xt, .int .i64 xw, .int .i64 xa] 31)).drew := by (repeat (first | (with_reducible exact Below.refl _ _) | (with_reducible assumption) | (with_reducible refine Near.up _ ?_) | (with_reducible refine Below.drew ?_) | (with_reducible refine below_alloc_on ?_ _) | (with_reducible refine below_set_on ?_ (by first | (simp; done) | (simp; omega) | omega) _)))
      exact HNY.out.below bq
    have OWa : (w0.alloc (.cells #[.int .i64 xt, .int .i64 xw, .int .i64 xa] 31)).drew.ownsRow w.heap.size 31 3 (.slice (some ⟨g, 0, none⟩) 0 (k + 1)) 0 [] := HOW.out.alloc (.cells #[.int .i64 xt, .int .i64 xw, .int .i64 xa] 31)
    have Ba : Below w.heap.size w (w0.alloc (.cells #[.int .i64 xt, .int .i64 xw, .int .i64 xa] 31)).drew := by (repeat (first | (with_reducible exact Below.refl _ _) | (with_reducible assumption) | (with_reducible refine Near.up _ ?_) | (with_reducible refine Below.drew ?_) | (with_reducible refine below_alloc_on ?_ _) | (with_reducible refine below_set_on ?_ (by first | (simp; done) | (simp; omega) | omega) _)))
    have za : w.heap.size ≤ (w0.alloc (.cells #[.int .i64 xt, .int .i64 xw, .int .i64 xa] 31)).drew.heap.size := Ba.size
    have Ha : ∀ w3 v (X : Prop), (w0.alloc (.cells #[.int .i64 xt, .int .i64 xw, .int .i64 xa] 31)).drew.grownBy w3 (Value.slice (some ⟨g, 0, none⟩) 0 (k + 1)).ownBlock → w3.ownsRow w.heap.size 31 3 v (0 + k) ([] ++ ntL L) → (Hid (w3.ownsRow w.heap.size 31 3 v k (ntL L)) → Below w.heap.size w w3 → w.heap.size ≤ w3.heap.size → w3.cell? ⟨w0.heap.size, 0, none⟩ = some (.int .i64 xt) → w3.cell? ⟨w0.heap.size, 1, none⟩ = some (.int .i64 xw) → w3.cell? ⟨w0.heap.size, 2, none⟩ = some (.int .i64 xa) → X) → X := by
      intro w3 v X g1 o1 h
      rw [Nat.zero_add, List.nil_append] at o1
      have A3 : Below w.heap.size w w3 := Below.grown Ba g1 za (fun q hq => by have := (HOW.out.lt q hq).1; omega)
      obtain ⟨d0, d1, d2, _, _⟩ := (box_new w0 #[.int .i64 xt, .int .i64 xw, .int .i64 xa] 31).three
      have hq := g1.block w0.heap.size (by simp) (fun e => by have := (HOW.out.lt _ e.symm).2; omega)
      have hk : ∀ i, w3.cell? ⟨w0.heap.size, i, none⟩ = (w0.alloc (.cells #[.int .i64 xt, .int .i64 xw, .int .i64 xa] 31)).drew.cell? ⟨w0.heap.size, i, none⟩ := by intro i; unfold World.cell?; rw [hq]
      exact h (Lib.hid o1) A3 A3.size ((hk 0).trans d0) ((hk 1).trans d1) ((hk 2).trans d2)
    have HNYa := Lib.hid NYa
    have HOWa := Lib.hid OWa
    clear NYa OWa
    go_region_law (first
        | (refine step_notes (c := c - r) (w := w0.drew) rfl (.tmp 17) (.tmp 18) rfl (by simp [Act.eval, Act.put]) (by simp [Act.eval, Act.put]) HNY.out HOW.out hsz hkk ?_; intro v1 w3 o1 g1; (rw [Nat.zero_add, List.nil_append] at o1); (have OW1 := Lib.hid o1); (have A3 : Below w.heap.size w w3 := Below.grown A1d g1 hsz (fun q hq => by have := (HOW.out.lt q hq).1; omega)); (have B3 := Box.of_block BXd (g1.block xb zl (fun e => hxg (Option.some.inj e)))); (obtain ⟨y0, y1, y2, yf, yl⟩ := B3.three); (have hs3 := A3.size); clear g1 o1)
        | (refine step_note rfl (.tmp 19) (.tmp 21) rfl xt xw xa (by simp [Act.eval, Act.put]) (by simp [Act.eval, Act.put]) OW1.out hs3 hk2 ?_; intro v2 w4 o2 g2; (have OW2 := Lib.hid o2); (have A4 : Below w.heap.size w w4 := Below.grown (below_alloc_on A3 _) g2 (by simp; omega) (fun q hq => by have := (OW1.out.lt q hq).1; omega)); clear o2 g2)
        | (refine step_note2 rfl (.tmp 19) (.tmp 21) rfl xt xw xa (by simp [Act.eval, Act.put]) (by simp [Act.eval, Act.put]) D0 D1 D2 OW1.out hs3 hk2 ?_; intro v2 w4 o2 g2; (have OW2 := Lib.hid o2); (have A4 : Below w.heap.size w w4 := Below.grown A3 g2 hs3 (fun q hq => by have := (OW1.out.lt q hq).1; omega)); clear o2 g2)
        | (refine step_notes (c := c - r) (w := (w0.alloc (.cells #[.int .i64 xt, .int .i64 xw, .int .i64 xa] 31)).drew) rfl (.tmp 17) (.tmp 18) rfl (by simp [Act.eval, Act.put]) (by simp [Act.eval, Act.put]) HNYa.out HOWa.out za hkk ?_; intro v1 w3 o1 g1; refine Ha w3 v1 _ g1 o1 ?_; intro OW1 A3 hs3 D0 D1 D2; clear g1 o1))
    all_goals go_wp2
    all_goals refine bodyPost_ret (v := v2) (by first | rfl | simp [results, Tryd.results14, go_sem]) rfl ?_
    all_goals exact push_end (x := ⟨xt, xw, xa⟩) hLk OW2.out A4 HP.out
  · subst R0
    rw [List.drop_zero] at HP
    have HY := Lib.hid h
    obtain ⟨L, rfl⟩ : ∃ L, L = l := ⟨_, rfl⟩
    obtain ⟨k, hk⟩ : ∃ k, n = k := ⟨_, rfl⟩
    subst hk
    have hLk := HY.out.1
    have hmx : max ((n : Int) - 31) 0 = 0 := by omega
    have hadd : ∀ x : Addr, x.add 0 = x := fun x => rfl
    have hmk := fun w => HMK w (n + 1) (by omega)
    simp only [show ((n + 1 : Nat) : Int) = (n : Int) + 1 from rfl] at hmk
    have wk : IntKind.i64.wrap ((n : Int) + 1) = (n : Int) + 1 := by rw [IntKind.wrap_i64]; omega
    have hk1 : n ≤ 1000 := by omega
    have hml : n + 1 ≤ maxLen := by unfold maxLen; omega
    clear HMK
    go_enter Tryd.func14, Tryd.ntmps14
    go_upto_region 3 with (fail)
    refine at_world (fun W => Below w.heap.size w W ∧ Box W w.heap.size #[.int .i64 xt, .int .i64 xw, .int .i64 xa] ∧ W.ownsRow w.heap.size 31 3 (.slice (some ⟨w.heap.size + 1, 0, none⟩) 0 (n + 1)) 0 [] ∧ Notes W A n L) ⟨by (repeat (first | (with_reducible exact Below.refl _ _) | (with_reducible assumption) | (with_reducible refine Near.up _ ?_) | (with_reducible refine Below.drew ?_) | (with_reducible refine below_alloc_on ?_ _) | (with_reducible refine below_set_on ?_ (by first | (simp; done) | (simp; omega) | omega) _))), (box_new _ _ _).alloc _, own_at (own_made _ _ _ _ hml (by simp)) (by simp), (HY.out.below (by (repeat (first | (with_reducible exact Below.refl _ _) | (with_reducible assumption) | (with_reducible refine Near.up _ ?_) | (with_reducible refine Below.drew ?_) | (with_reducible refine below_alloc_on ?_ _) | (with_reducible refine below_set_on ?_ (by first | (simp; done) | (simp; omega) | omega) _)))))⟩ ?_
    obtain ⟨xb, hxb⟩ : ∃ xb, w.heap.size = xb := ⟨_, rfl⟩
    obtain ⟨g, hg⟩ : ∃ g, w.heap.size + 1 = g := ⟨_, rfl⟩
    have A0 : Below w.heap.size w w := Below.refl _ _
    simp only [hg]
    have hbs : w.heap.size ≤ g := by omega
    clear HY hmk
    rintro w0 ⟨A1, BX, OWN, NY⟩
    have hsz := A1.size
    rw [hxb] at BX
    simp only [hxb]
    have hxs : w.heap.size ≤ xb := by omega
    have hxg : xb ≠ g := by omega
    clear hg hxb
    obtain ⟨z0, z1, z2, zf, zl⟩ := BX.three
    have HOW := Lib.hid OWN
    have HNY := Lib.hid NY
    have hkk : 0 + n ≤ 1000000 := by omega
    have hk2 : n ≤ 1000000 := by omega
    clear OWN NY
    have A1d : Below w.heap.size w w0.drew := by (repeat (first | (with_reducible exact Below.refl _ _) | (with_reducible assumption) | (with_reducible refine Near.up _ ?_) | (with_reducible refine Below.drew ?_) | (with_reducible refine below_alloc_on ?_ _) | (with_reducible refine below_set_on ?_ (by first | (simp; done) | (simp; omega) | omega) _)))
    have BXd : Box w0.drew xb #[.int .i64 xt, .int .i64 xw, .int .i64 xa] := BX
    have NYa : Notes (w0.alloc (.cells #[.int .i64 xt, .int .i64 xw, .int .i64 xa] 31)).drew A n L := by
      have bq : Below w0.heap.size w0 (w0.alloc (.cells #[.int .i64 xt, .int .i64 xw, .int .i64 xa] 31)).drew := by (repeat (first | (with_reducible exact Below.refl _ _) | (with_reducible assumption) | (with_reducible refine Near.up _ ?_) | (with_reducible refine Below.drew ?_) | (with_reducible refine below_alloc_on ?_ _) | (with_reducible refine below_set_on ?_ (by first | (simp; done) | (simp; omega) | omega) _)))
      exact HNY.out.below bq
    have OWa : (w0.alloc (.cells #[.int .i64 xt, .int .i64 xw, .int .i64 xa] 31)).drew.ownsRow w.heap.size 31 3 (.slice (some ⟨g, 0, none⟩) 0 (n + 1)) 0 [] := HOW.out.alloc (.cells #[.int .i64 xt, .int .i64 xw, .int .i64 xa] 31)
    have Ba : Below w.heap.size w (w0.alloc (.cells #[.int .i64 xt, .int .i64 xw, .int .i64 xa] 31)).drew := by (repeat (first | (with_reducible exact Below.refl _ _) | (with_reducible assumption) | (with_reducible refine Near.up _ ?_) | (with_reducible refine Below.drew ?_) | (with_reducible refine below_alloc_on ?_ _) | (with_reducible refine below_set_on ?_ (by first | (simp; done) | (simp; omega) | omega) _)))
    have za : w.heap.size ≤ (w0.alloc (.cells #[.int .i64 xt, .int .i64 xw, .int .i64 xa] 31)).drew.heap.size := Ba.size
    have Ha : ∀ w3 v (X : Prop), (w0.alloc (.cells #[.int .i64 xt, .int .i64 xw, .int .i64 xa] 31)).drew.grownBy w3 (Value.slice (some ⟨g, 0, none⟩) 0 (n + 1)).ownBlock → w3.ownsRow w.heap.size 31 3 v (0 + n) ([] ++ ntL L) → (Hid (w3.ownsRow w.heap.size 31 3 v n (ntL L)) → Below w.heap.size w w3 → w.heap.size ≤ w3.heap.size → w3.cell? ⟨w0.heap.size, 0, none⟩ = some (.int .i64 xt) → w3.cell? ⟨w0.heap.size, 1, none⟩ = some (.int .i64 xw) → w3.cell? ⟨w0.heap.size, 2, none⟩ = some (.int .i64 xa) → X) → X := by
      intro w3 v X g1 o1 h
      rw [Nat.zero_add, List.nil_append] at o1
      have A3 : Below w.heap.size w w3 := Below.grown Ba g1 za (fun q hq => by have := (HOW.out.lt q hq).1; omega)
      obtain ⟨d0, d1, d2, _, _⟩ := (box_new w0 #[.int .i64 xt, .int .i64 xw, .int .i64 xa] 31).three
      have hq := g1.block w0.heap.size (by simp) (fun e => by have := (HOW.out.lt _ e.symm).2; omega)
      have hk : ∀ i, w3.cell? ⟨w0.heap.size, i, none⟩ = (w0.alloc (.cells #[.int .i64 xt, .int .i64 xw, .int .i64 xa] 31)).drew.cell? ⟨w0.heap.size, i, none⟩ := by intro i; unfold World.cell?; rw [hq]
      exact h (Lib.hid o1) A3 A3.size ((hk 0).trans d0) ((hk 1).trans d1) ((hk 2).trans d2)
    have HNYa := Lib.hid NYa
    have HOWa := Lib.hid OWa
    clear NYa OWa
    go_region_law (first
        | (refine step_notes (c := c) (w := w0.drew) rfl (.tmp 17) (.tmp 18) rfl (by simp [Act.eval, Act.put]) (by simp [Act.eval, Act.put]) HNY.out HOW.out hsz hkk ?_; intro v1 w3 o1 g1; (rw [Nat.zero_add, List.nil_append] at o1); (have OW1 := Lib.hid o1); (have A3 : Below w.heap.size w w3 := Below.grown A1d g1 hsz (fun q hq => by have := (HOW.out.lt q hq).1; omega)); (have B3 := Box.of_block BXd (g1.block xb zl (fun e => hxg (Option.some.inj e)))); (obtain ⟨y0, y1, y2, yf, yl⟩ := B3.three); (have hs3 := A3.size); clear g1 o1)
        | (refine step_note rfl (.tmp 19) (.tmp 21) rfl xt xw xa (by simp [Act.eval, Act.put]) (by simp [Act.eval, Act.put]) OW1.out hs3 hk2 ?_; intro v2 w4 o2 g2; (have OW2 := Lib.hid o2); (have A4 : Below w.heap.size w w4 := Below.grown (below_alloc_on A3 _) g2 (by simp; omega) (fun q hq => by have := (OW1.out.lt q hq).1; omega)); clear o2 g2)
        | (refine step_note2 rfl (.tmp 19) (.tmp 21) rfl xt xw xa (by simp [Act.eval, Act.put]) (by simp [Act.eval, Act.put]) D0 D1 D2 OW1.out hs3 hk2 ?_; intro v2 w4 o2 g2; (have OW2 := Lib.hid o2); (have A4 : Below w.heap.size w w4 := Below.grown A3 g2 hs3 (fun q hq => by have := (OW1.out.lt q hq).1; omega)); clear o2 g2)
        | (refine step_notes (c := c) (w := (w0.alloc (.cells #[.int .i64 xt, .int .i64 xw, .int .i64 xa] 31)).drew) rfl (.tmp 17) (.tmp 18) rfl (by simp [Act.eval, Act.put]) (by simp [Act.eval, Act.put]) HNYa.out HOWa.out za hkk ?_; intro v1 w3 o1 g1; refine Ha w3 v1 _ g1 o1 ?_; intro OW1 A3 hs3 D0 D1 D2; clear g1 o1))
    all_goals go_wp2
    all_goals refine bodyPost_ret (v := v2) (by first | rfl | simp [results, Tryd.results14, go_sem]) rfl ?_
    all_goals exact push_end (x := ⟨xt, xw, xa⟩) hLk OW2.out A4 HP.out
end Go.Proofs.YtbhgecmmmkmkjaaDoor
