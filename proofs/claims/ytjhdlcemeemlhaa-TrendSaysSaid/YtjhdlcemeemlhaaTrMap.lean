/- The map of the minutes that are open: how its elements read; what is looked up, stored, come by, struck. -/
import Derived.Test.YtjhdlcemeemlhaaTrMem
import Derived.Maps.OwnSet
import Derived.Maps.RangeWalk
import Derived.Maps.Ext
namespace Go.Proofs.Ytjhdlcemeemlhaa
open Go.RowKit Go.Maps
set_option linter.unusedVariables false
set_option linter.unusedSimpArgs false
set_option maxRecDepth 100000

abbrev DU := DataW Unit
def intsOf : List Value → Option (List Int)
  | [] => some []
  | .int .i64 a :: r => (intsOf r).map (a :: ·)
  | _ => none
def miD (m : Mi) : DU := .agg [.lit (.int .i64 m.b.power), .lit (.int .i64 m.b.minute), .lit (.int .i64 m.b.ticks), .lit (.int .i64 m.b.drops), .lit (.int .i64 m.b.least), .lit (.int .i64 m.b.most), .lit (.int .i64 m.b.volume), .lit (.int .i64 m.first)]
def miR : Value → Option (DU × List MemPlace)
  | .agg cs => match intsOf cs.toList with
    | some [a, b, c, d, e, f, g, h] => some (miD ⟨⟨a, b, c, d, e, f, g⟩, h⟩, [])
    | _ => none
  | _ => none
theorem miR_mk (m : Mi) : miR (miV m) = some (miD m, []) := rfl
theorem intsOf_inv : ∀ {l : List Value} {xs : List Int}, intsOf l = some xs → l = xs.map (Value.int .i64)
  | [], xs, h => by simp [intsOf] at h; subst h; rfl
  | v :: r, xs, h => by
    unfold intsOf at h
    split at h
    · rename_i heq; cases heq
    · rename_i heq
      cases heq
      obtain ⟨ys, hy, rfl⟩ := Option.map_eq_some_iff.1 h
      rw [intsOf_inv hy]; rfl
    · cases h
theorem miR_inv {v : Value} {z : DU × List MemPlace} (h : miR v = some z) : ∃ m, v = miV m ∧ z = (miD m, []) := by
  unfold miR at h
  split at h
  · rename_i cs
    split at h
    · rename_i a b c d e f g k heq
      have e1 := intsOf_inv heq
      refine ⟨⟨⟨a, b, c, d, e, f, g⟩, k⟩, ?_, by simpa using h.symm⟩
      have e2 : cs = cs.toList.toArray := by simp
      rw [e2, e1]; rfl
    · cases h
  · cases h
theorem miD_inj {x y : Mi} (h : miD x = miD y) : x = y := by
  obtain ⟨⟨a, b, c, d, e, f, g⟩, k⟩ := x
  obtain ⟨⟨a', b', c', d', e', f', g'⟩, k'⟩ := y
  simp only [miD, DataW.agg.injEq, List.cons.injEq, DataW.lit.injEq, Lit.int.injEq, true_and, and_true] at h
  obtain ⟨rfl, rfl, rfl, rfl, rfl, rfl, rfl, rfl⟩ := h
  rfl
theorem law3 : Keyed Try.prog 3 := int_keyed Try.underlying3
/-- The map holds these, each at its minute. -/
def Rep (D : DU) (M : List Mi) : Prop := (∀ x : Int, Maps.has D (.int .i64 x) = true ↔ ∃ m ∈ M, m.b.minute = x) ∧ ∀ m ∈ M, ∀ z, D.atKey (.int .i64 m.b.minute) z = miD m
theorem rep_nil : Rep (.map []) [] := ⟨fun x => ⟨fun h => by simp [Maps.has] at h, fun ⟨m, hm, _⟩ => by simp at hm⟩, fun m hm => by simp at hm⟩
theorem Rep.put {D : DU} {M : List Mi} (h : Rep D M) (hD : IsMap D) {p a i : Int} {o : Ou} (hn : M.Pairwise (fun x y => x.b.minute ≠ y.b.minute)) {m' : Mi} (e1 : m'.b.minute = a) (e3 : ∀ x, x ∈ upM p a i o M ↔ x = m' ∨ (x ∈ M ∧ x.b.minute ≠ a)) :
    Rep (D.put (.int .i64 a) (miD m')) (upM p a i o M) := by
  have hk : WideAt.IsKeyLit (.int .i64 a) := trivial
  refine ⟨fun x => ?_, fun m hm z => ?_⟩
  · by_cases hx : x = a
    · subst hx
      exact ⟨fun _ => ⟨m', (e3 m').2 (.inl rfl), e1⟩, fun _ => has_put_same hD hk _⟩
    · rw [has_put_other (k := .int .i64 a) (k' := .int .i64 x) (by intro e; cases e; exact hx rfl), h.1 x]
      constructor
      · rintro ⟨m, hm, rfl⟩
        exact ⟨m, (e3 m).2 (.inr ⟨hm, hx⟩), rfl⟩
      · rintro ⟨m, hm, rfl⟩
        rcases (e3 m).1 hm with rfl | ⟨hm, _⟩
        · exact absurd e1 hx
        · exact ⟨m, hm, rfl⟩
  · rcases (e3 m).1 hm with rfl | ⟨hm, hne⟩
    · rw [e1]; exact atKey_put_same hD hk _ _
    · rw [atKey_put_other (by intro e; cases e; exact hne rfl)]
      exact h.2 m hm z

section
variable (w : World) {ops : Array Oper} {rest : List Oper} {o : Oper} {a : Act} {Q : Exit → Act → World → Prop}
/-- 'm, begun := open[at]': there it is. -/
theorem look_hit (hg : o.guard = none) (m x : Operand) (hop : o.op = Op.lookup 36 m x true) (b n : Nat) (D : DU) (M : List Mi) (hR : Rep D M) (hm : a.eval m = .map (some b)) (hown : w.ownsMap Try.prog 3 miR b n D)
    (k : Int) (hx : a.eval x = .int .i64 k) (hw : (Lit.int .i64 k).wf = true) (y : Mi) (hy : y ∈ M) (hyk : y.b.minute = k)
    (hK : wpList Try.prog ops Q rest (a.put o.dst (.tuple #[miV y, .bool true])) w) : wpList Try.prog ops Q (o :: rest) a w := by
  refine wpList_plain hg fun K' hK' => ?_
  have hz : (zeroValue 39).run Try.prog w = .ok (miV miZ) w := Try.zeroValue39 w
  obtain ⟨v, ps, hrun, hv⟩ := hown.look_ok law3 Try.underlying36 hz (miR_mk miZ) (keyOf_int_mk Try.underlying3 hw)
  have hhas : Maps.has D (.int .i64 k) = true := (hR.1 k).2 ⟨y, hy, hyk⟩
  obtain ⟨m', rfl, e⟩ := miR_inv hv
  have e1 : D.atKey (.int .i64 k) (miD miZ) = miD m' := congrArg Prod.fst e
  rw [← hyk, hR.2 y hy] at e1
  rw [← miD_inj e1, hhas] at hrun
  unfold Oper.wp
  simp [execOp, hop, hm, hx, hrun, Result.andThen]
  exact hK' _ _ hK
/-- .. there it is not. -/
theorem look_miss (hg : o.guard = none) (m x : Operand) (hop : o.op = Op.lookup 36 m x true) (b n : Nat) (D : DU) (M : List Mi) (hR : Rep D M) (hm : a.eval m = .map (some b)) (hown : w.ownsMap Try.prog 3 miR b n D)
    (k : Int) (hx : a.eval x = .int .i64 k) (hw : (Lit.int .i64 k).wf = true) (hno : ∀ y ∈ M, y.b.minute ≠ k)
    (hK : wpList Try.prog ops Q rest (a.put o.dst (.tuple #[miV miZ, .bool false])) w) : wpList Try.prog ops Q (o :: rest) a w := by
  refine wpList_plain hg fun K' hK' => ?_
  have hz : (zeroValue 39).run Try.prog w = .ok (miV miZ) w := Try.zeroValue39 w
  obtain ⟨v, ps, hrun, hv⟩ := hown.look_ok law3 Try.underlying36 hz (miR_mk miZ) (keyOf_int_mk Try.underlying3 hw)
  have hhas : Maps.has D (.int .i64 k) = false := by
    rw [Bool.eq_false_iff]
    intro h
    obtain ⟨y, hy, e⟩ := (hR.1 k).1 h
    exact hno y hy e
  obtain ⟨m', rfl, e⟩ := miR_inv hv
  have e1 : D.atKey (.int .i64 k) (miD miZ) = miD m' := congrArg Prod.fst e
  rw [atKey_of_not_has hhas] at e1
  rw [← miD_inj e1, hhas] at hrun
  unfold Oper.wp
  simp [execOp, hop, hm, hx, hrun, Result.andThen]
  exact hK' _ _ hK
/-- The range's step. -/
theorem next_mi (hg : o.guard = none) (it : Operand) (hop : o.op = Op.next it false) (b r n : Nat) (D : DU) (left : Lit → Bool) (cnt : Nat) (hit : a.eval it = .pointer (some ⟨r, 0, none⟩)) (h : w.ranges Try.prog 3 miR b r n D left cnt)
    (hDone : (∀ kl, left kl = false) → wpList Try.prog ops Q rest (a.put o.dst (.tuple #[.bool false])) w)
    (hMore : ∀ (x : Int) (c : Mi) (w' : World) (cnt' : Nat), (Lit.int .i64 x).wf = true → left (.int .i64 x) = true → (∀ zd, D.atKey (.int .i64 x) zd = miD c) → w'.ranges Try.prog 3 miR b r n D (fun z => left z && !z.sameKey (.int .i64 x)) cnt' → cnt' < cnt →
      w.grownBy w' (some r) → w'.heap.size = w.heap.size → (Instr.entry (.pointer (some ⟨r, 0, none⟩))).run Try.prog w' = .ok (.tuple #[.int .i64 x, miV c]) w' → wpList Try.prog ops Q rest (a.put o.dst (.tuple #[.bool true, .int .i64 x, miV c])) w') :
    wpList Try.prog ops Q (o :: rest) a w :=
  wpList_next_ranges w hg it hop 3 law3 miR (Value.int .i64) miV (fun key kl hkey => by obtain ⟨x, rfl, _⟩ := Maps.keyOf_int_inv Try.underlying3 hkey; exact ⟨x, rfl⟩) (fun v y hv => by obtain ⟨c, rfl, _⟩ := miR_inv hv; exact ⟨c, rfl⟩)
    b r n D left cnt hit h (fun _ hl => hDone hl) (fun x c kl y w' cnt' hkey hlk hv hat hrg hlt hgr hsz hen => by
      obtain ⟨x', ex, rfl, hwx⟩ := Maps.keyOf_int_inv Try.underlying3 hkey
      cases ex
      rw [miR_mk] at hv
      cases hv
      exact hMore x c w' cnt' hwx hlk hat hrg hlt hgr hsz hen)
end
theorem info_bk : (Try.prog.info? 33).map (fun i => (i.zero, i.size, i.bytes)) = some (some (.agg #[.int .i64 0, .int .i64 0, .int .i64 0, .int .i64 0, .int .i64 0, .int .i64 0, .int .i64 0]), 7, 56) := by kernel_rfl
theorem info_mi : (Try.prog.info? 39).map (fun i => (i.zero, i.size, i.bytes)) = some (some (.agg #[.int .i64 0, .int .i64 0, .int .i64 0, .int .i64 0, .int .i64 0, .int .i64 0, .int .i64 0, .int .i64 0]), 8, 64) := by kernel_rfl
theorem one_bk (x : Bk) : ∀ u ∈ bkC x, u.oneCell' = true := by
  intro u hu
  simp only [bkC, List.mem_cons, List.not_mem_nil, or_false] at hu
  rcases hu with rfl | rfl | rfl | rfl | rfl | rfl | rfl <;> rfl
theorem one_mi (x : Mi) : ∀ u ∈ miC x, u.oneCell' = true := by
  intro u hu
  simp only [miC, List.mem_cons, List.not_mem_nil, or_false] at hu
  rcases hu with rfl | rfl | rfl | rfl | rfl | rfl | rfl | rfl <;> rfl
theorem cells_new (w : World) (cs : List Value) (t : TypeId) : ∀ j u, cs[j]? = some u → (w.alloc (.cells cs.toArray t)).cell? ((⟨w.heap.size, 0, none⟩ : Addr).add j) = some u := by
  intro j u hj
  rw [add_off, Nat.zero_add, (box_new w cs.toArray t).2.1 j, ← hj]
  simp
section
variable {ops : Array Oper} {rest : List Oper} {o : Oper} {a : Act} {Q : Exit → Act → World → Prop} {w : World}
theorem app_bk (hgd : o.guard = none) (s x : Operand) (ho : o.op = .call { callee := .builtin .append, args := #[s, x], argTypes := #[23, 23] }) {base : Nat} {l : List Bk} {v : Value} (y : Bk)
    {p : Nat} (hp : w.heap.size = p) (hs : a.eval s = v) (hx : a.eval x = .slice (some ⟨p, 0, none⟩) 1 1) (hown : w.ownsRow base 33 7 v l.length (l.flatMap bkC)) (hb : base ≤ w.heap.size) (hn : l.length ≤ 1000000)
    (hK : ∀ v' w', w'.ownsRow base 33 7 v' (l ++ [y]).length ((l ++ [y]).flatMap bkC) → (w.alloc (.cells (bkC y).toArray 33)).grownBy w' v.ownBlock → wpList Try.prog ops Q rest (a.put o.dst v') w') :
    wpList Try.prog ops Q (o :: rest) a (w.alloc (.cells (bkC y).toArray 33)) := by
  subst hp
  obtain ⟨i0, hi0, hz0, hz1, hz2⟩ := info_parts info_bk
  have ML : 140737488355328 ≤ maxLen := by decide
  refine wpList_append_own _ hgd s x 23 ho base 33 i0 _ 7 56 Try.underlying23 hi0 hz0 hz1 hz2 rfl (by decide) v l.length _ hs (hown.alloc _) ⟨w.heap.size, 0, none⟩ 1 1 (bkC y) hx rfl (cells_new _ _ _) (one_bk y) (by omega) (by omega) (by simp; omega) (fun v' w' h1 h2 _ => hK v' w' ?_ h2)
  rw [List.length_append, List.flatMap_append, List.flatMap_singleton]
  exact h1
theorem app_mi (hgd : o.guard = none) (s x : Operand) (ho : o.op = .call { callee := .builtin .append, args := #[s, x], argTypes := #[45, 45] }) {base : Nat} {l : List Mi} {v : Value} (y : Mi)
    {p : Nat} (hp : w.heap.size = p) (hs : a.eval s = v) (hx : a.eval x = .slice (some ⟨p, 0, none⟩) 1 1) (hown : w.ownsRow base 39 8 v l.length (l.flatMap miC)) (hb : base ≤ w.heap.size) (hn : l.length ≤ 1000000)
    (hK : ∀ v' w', w'.ownsRow base 39 8 v' (l ++ [y]).length ((l ++ [y]).flatMap miC) → (w.alloc (.cells (miC y).toArray 39)).grownBy w' v.ownBlock → wpList Try.prog ops Q rest (a.put o.dst v') w') :
    wpList Try.prog ops Q (o :: rest) a (w.alloc (.cells (miC y).toArray 39)) := by
  subst hp
  obtain ⟨i0, hi0, hz0, hz1, hz2⟩ := info_parts info_mi
  have ML : 140737488355328 ≤ maxLen := by decide
  refine wpList_append_own _ hgd s x 45 ho base 39 i0 _ 8 64 Try.underlying45 hi0 hz0 hz1 hz2 rfl (by decide) v l.length _ hs (hown.alloc _) ⟨w.heap.size, 0, none⟩ 1 1 (miC y) hx rfl (cells_new _ _ _) (one_mi y) (by omega) (by omega) (by simp; omega) (fun v' w' h1 h2 _ => hK v' w' ?_ h2)
  rw [List.length_append, List.flatMap_append, List.flatMap_singleton]
  exact h1
theorem flat_get {g : Nat → Bk} {n : Nat} {ys : List Bk} (hl : ys.length = n) (hg : ∀ i, i < n → g i = atL ys i) {A : Option Addr} (h : Bks w A n g) {ad : Addr} (e : A = some ad) : ∀ j u, (ys.flatMap bkC)[j]? = some u → w.cell? (ad.add j) = some u := by
  intro j u hu
  have hj : j < n * 7 := by
    have := (List.getElem?_eq_some_iff.1 hu).1
    rwa [fl_len bkC_len, hl] at this
  have hi : j / 7 < n := by omega
  obtain ⟨b, off, e', hb, hc⟩ := h (by omega)
  rw [e] at e'
  cases e'
  have h1 := hc (j / 7) hi (j % 7) (by omega)
  have h2 := fl_at bkC_len no0 ys (j / 7) (j % 7) (by omega) (by omega)
  rw [show j / 7 * 7 + j % 7 = j by omega, hu] at h2
  rw [add_off, ← show off + j / 7 * 7 + j % 7 = off + j by omega, h1, hg _ hi]
  exact h2.symm
/-- 'append(l, more...)': what is put behind may be nil. -/
theorem app_bks (hgd : o.guard = none) (s x : Operand) (ho : o.op = .call { callee := .builtin .append, args := #[s, x], argTypes := #[23, 23] }) {base m c : Nat} {l ys : List Bk} {v : Value} {A : Option Addr} {g : Nat → Bk}
    (hs : a.eval s = v) (hx : a.eval x = .slice A m c) (hl : ys.length = m) (hg : ∀ i, i < m → g i = atL ys i) (hy : Bks w A m g) (hown : w.ownsRow base 33 7 v l.length (l.flatMap bkC)) (hb : base ≤ w.heap.size) (hn : l.length + m ≤ 1000000)
    (hK : ∀ v' w', w'.ownsRow base 33 7 v' (l ++ ys).length ((l ++ ys).flatMap bkC) → w.grownBy w' v.ownBlock → wpList Try.prog ops Q rest (a.put o.dst v') w') :
    wpList Try.prog ops Q (o :: rest) a w := by
  obtain ⟨i0, hi0, hz0, hz1, hz2⟩ := info_parts info_bk
  have ML : 140737488355328 ≤ maxLen := by decide
  cases A with
  | none =>
    obtain rfl : m = 0 := by
      rcases Nat.eq_zero_or_pos m with h0 | h0
      · exact h0
      · obtain ⟨b, off, e, _⟩ := hy h0; cases e
    obtain rfl : ys = [] := List.eq_nil_of_length_eq_zero hl
    refine wpList_plain hgd fun K hK' => ?_
    have hrun : (Builtin.append_ #[23, 23] o.type #[v, .slice none 0 c]).run Try.prog w = .ok v w := by
      rcases hown.2 with ⟨rfl, h0⟩ | ⟨g, cap, cur, rfl, _, _, hnc, _⟩
      · simp [Builtin.append_, run_underlying Try.underlying23, sizeOf, typeInfo, hi0, Builtin.lenOf, Builtin.firstCells]
      · simp [Builtin.append_, run_underlying Try.underlying23, sizeOf, typeInfo, hi0, Builtin.lenOf, Builtin.firstCells, hnc, storeCells]
    unfold Oper.wp
    simp [execOp, ho, resolve, invoke, builtin, hs, hx, hrun, Result.andThen]
    exact hK' _ _ (hK v w (by simpa using hown) (World.grownBy.refl w _))
  | some ad =>
    refine wpList_append_own _ hgd s x 23 ho base 33 i0 _ 7 56 Try.underlying23 hi0 hz0 hz1 hz2 rfl (by decide) v l.length _ hs hown ad m c (ys.flatMap bkC) hx (by rw [fl_len bkC_len, hl]) (flat_get hl hg hy rfl) (fun u hu => ?_) (by omega) (by omega) hb (fun v' w' h1 h2 _ => hK v' w' ?_ h2)
    · obtain ⟨y, _, hy⟩ := List.mem_flatMap.1 hu
      exact one_bk y u hy
    · rw [List.length_append, List.flatMap_append, hl]
      exact h1
end
end Go.Proofs.Ytjhdlcemeemlhaa
