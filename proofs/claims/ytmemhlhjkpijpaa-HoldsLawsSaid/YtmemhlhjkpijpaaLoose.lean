/- A region that draws its order and whose operations may yield what hangs on the order (a new block's number, a callee's new list): each operation is met once, in any state in which those that it waits for are through; the last few come in one forced order. -/
import Derived.Test.YtmemhlhjkpijpaaTail
import Derived.Test.YtmemhlhjkpijpaaBox
import Derived.Deep.MidRow
namespace Go.Proofs.Ytmemhlhjkpijpaa
set_option maxRecDepth 100000
open Go.RowKit
set_option linter.unusedVariables false
set_option linter.unusedSimpArgs false

section
variable {P : Program} {ops : Array Oper} {Q : Exit → Act → World → Prop}

def dstOf (ops : Array Oper) (j : Nat) : Option Tmp := (ops[j]?).bind (·.dst)
/-- What operation j has left. -/
def outOf (ops : Array Oper) (a : Act) (j : Nat) : Value := match dstOf ops j with
  | some t => a.tmps.getD t undef
  | none => undef
def isDst (ops : Array Oper) (s : Tmp) : Bool := (List.range ops.size).any fun j => dstOf ops j == some s
/-- Does o wait for number j? -/
def waitsB (o : Oper) (j : Nat) : Bool := o.after.any fun e => Region.binds .any e && e.on == j
/-- One operation, in a state in which it may come up: what it leaves, and in which world. -/
def looseStep (P : Program) (ops : Array Oper) (o : Oper) (a : Act) (w : World) (Q : Exit → Act → World → Prop) (R : Value → World → Prop) : Prop :=
  if Region.wanted o (yielded ops a.tmps) = true then o.wp P a w (fun a' w' => ∃ v, a' = a.put o.dst v ∧ R v w') Q else R undef w

def looseB (ops : Array Oper) (n N : Nat) : Bool :=
  decide (n ≤ ops.size) &&
  ((List.range ops.size).all fun i =>
    (match dstOf ops i with
      | some s => decide (s < N) && (List.range ops.size).all fun j => j == i || dstOf ops j != some s
      | none => decide (n ≤ i)) &&
    (match ops[i]? with
      | none => false
      | some o => if i < n then o.after.all fun e => !Region.binds .any e || decide (e.on < i)
        else ((List.range n).all fun j => waitsB o j) || (decide (n < i) && waitsB o (i - 1)))) &&
  Region.seqB .any ops (ops.size - n) n (Array.replicate n true ++ Array.replicate (ops.size - n) false)

structure LooseInv (ops : Array Oper) (n : Nat) (a0 : Act) (w0 : World) (E : World → World → Prop) (D : Nat → Value → World → Prop) (G : (Nat → Bool) → (Nat → Value) → World → Prop) (listed : Array Bool) (a : Act) (w : World) : Prop where
  size : listed.size = ops.size
  tail : ∀ j, n ≤ j → listed.getD j false = false
  fr : a.tmps.size = a0.tmps.size
  de : a.defers = a0.defers
  ext : E w0 w
  out : ∀ s, isDst ops s = false → a.tmps[s]? = a0.tmps[s]?
  know : ∀ j, j < n → listed.getD j false = true → D j (outOf ops a j) w
  glob : G (fun j => listed.getD j false) (outOf ops a) w

theorem isDst_of {i : Nat} {s : Tmp} (hi : i < ops.size) (h : dstOf ops i = some s) : isDst ops s = true := by
  unfold isDst
  rw [List.any_eq_true]
  exact ⟨i, by simpa using hi, by simp [h]⟩

theorem out_put_self {a : Act} {i : Nat} {s : Tmp} {v : Value} (h : dstOf ops i = some s) (hs : s < a.tmps.size) : outOf ops (a.put (some s) v) i = v := by
  unfold outOf
  rw [h]
  simp [Act.put, hs]
theorem out_put_other {a : Act} {j : Nat} {d : Option Tmp} {v : Value} (h : ∀ s, d = some s → dstOf ops j ≠ some s) : outOf ops (a.put d v) j = outOf ops a j := by
  unfold outOf
  cases hd : dstOf ops j with
  | none => rfl
  | some t =>
    cases d with
    | none => rfl
    | some s =>
      have : s ≠ t := fun e => h s rfl (by rw [hd, e])
      simp [Act.put, Array.getElem?_setIfInBounds_ne this]

theorem count_set (f g : Nat → Bool) (i : Nat) (hi : f i = true) (hg : g i = false) (ho : ∀ j, j ≠ i → g j = f j) : ∀ n, i < n → (List.range n).countP f = (List.range n).countP g + 1
  | 0, h => absurd h (by omega)
  | n + 1, h => by
    rw [List.range_succ, List.countP_append, List.countP_append]
    by_cases e : i = n
    · subst e
      have : ∀ m, m ≤ i → (List.range m).countP f = (List.range m).countP g := by
        intro m
        induction m with
        | zero => intro _; rfl
        | succ m ih =>
          intro hm
          rw [List.range_succ, List.countP_append, List.countP_append, ih (by omega)]
          simp [ho m (by omega)]
      rw [this i (Nat.le_refl _)]
      simp [hi, hg]
    · rw [count_set f g i hi hg ho n (by omega)]
      simp [ho n (by omega)]
      omega

theorem getD_set_self {listed : Array Bool} {i : Nat} (h : i < listed.size) : (listed.setIfInBounds i true).getD i false = true := by simp [h]

theorem loose_any {n N : Nat} {a0 : Act} {w0 : World} {E : World → World → Prop} {D : Nat → Value → World → Prop} {G : (Nat → Bool) → (Nat → Value) → World → Prop}
    (hB : looseB ops n N = true) (hN : a0.tmps.size = N) (Etrans : ∀ a b c, E a b → E b c → E a c)
    (stable : ∀ i v w w', D i v w → E w w' → D i v w')
    (step : ∀ i o, i < n → ops[i]? = some o → ∀ a w L, E w0 w → (∀ s, isDst ops s = false → a.eval (.tmp s) = a0.eval (.tmp s)) → (∀ j, waitsB o j = true → D j (outOf ops a j) w) → L i = false → G L (outOf ops a) w →
      looseStep P ops o a w Q fun v w' => E w w' ∧ D i v w' ∧ G (fun j => if j = i then true else L j) (fun j => if j = i then v else outOf ops a j) w')
    (hend : ∀ a w, E w0 w → a.tmps.size = N → a.defers = a0.defers → (∀ s, isDst ops s = false → a.tmps[s]? = a0.tmps[s]?) → (∀ j, j < n → D j (outOf ops a j) w) → G (fun j => decide (j < n)) (outOf ops a) w → wpList P ops Q (ops.toList.drop n) a w)
    (Gcongr : ∀ L L' V V' w, (∀ j, L j = L' j) → (∀ j, L j = true → V j = V' j) → G L V w → G L' V' w) :
    ∀ (f : Nat) (listed : Array Bool) (a : Act) (w : World), (List.range n).countP (fun j => !listed.getD j false) = f → LooseInv ops n a0 w0 E D G listed a w → wpAny P .any ops Q (f + (ops.size - n)) listed a w := by
  simp only [looseB, Bool.and_eq_true, decide_eq_true_eq, List.all_eq_true, List.mem_range] at hB
  obtain ⟨⟨hn, hops⟩, hseq⟩ := hB
  intro f
  induction f with
  | zero =>
    intro listed a w hc inv
    have hall : ∀ j, j < n → listed.getD j false = true := by
      intro j hj
      have h := List.countP_eq_zero.1 hc j (by simpa using hj)
      simpa using h
    have hl : listed = Array.replicate n true ++ Array.replicate (ops.size - n) false := by
      apply Array.ext
      · rw [inv.size]; simp; omega
      · intro i h1 h2
        have e : listed.getD i false = listed[i] := by simp [h1]
        by_cases hi : i < n
        · rw [← e, hall i hi]; simp [Array.getElem_append, hi]
        · rw [← e, inv.tail i (by omega)]; simp [Array.getElem_append, hi]
    have hg : G (fun j => decide (j < n)) (outOf ops a) w := Gcongr _ _ _ _ w (fun j => by
      by_cases hj : j < n
      · simp only [hall j hj, hj, decide_true]
      · simp only [inv.tail j (by omega), hj, decide_false]) (fun _ _ => rfl) inv.glob
    have h1 := hend a w inv.ext (by rw [inv.fr, hN]) inv.de inv.out (fun j hj => inv.know j hj (hall j hj)) hg
    have hlen : (ops.toList.drop n).length = ops.size - n := by simp
    have := wpAny_of_seq (P := P) (ops := ops) (md := .any) (Q' := Q) (ops.toList.drop n) n listed a w (fun j => by simp [List.getElem?_drop]) (by rw [hlen, hl]; exact hseq) h1
    rw [hlen] at this
    rw [Nat.zero_add]
    exact this
  | succ f ih =>
    intro listed a w hc inv
    have hsome : ∃ j, j < n ∧ listed.getD j false = false := by
      have hp : 0 < (List.range n).countP (fun j => !listed.getD j false) := by omega
      obtain ⟨j, hj, hh⟩ := List.countP_pos_iff.1 hp
      exact ⟨j, by simpa using hj, by simpa using hh⟩
    have hsz : ∀ {i : Nat} {o : Oper}, ops[i]? = some o → i < ops.size := fun h => (Array.getElem?_eq_some_iff.1 h).1
    have hready : Region.ready .any ops listed ≠ [] := by
      have hmin : ∀ k, ∀ j, j ≤ k → j < n → listed.getD j false = false → ∃ i, i < n ∧ i ∈ Region.ready .any ops listed := by
        intro k
        induction k with
        | zero =>
          intro j hj hjn hjl
          obtain rfl : j = 0 := by omega
          have hs : 0 < ops.size := by omega
          refine ⟨0, hjn, mem_ready.2 ⟨getD_in (by rw [inv.size]; exact hs) hjl, ops[0], by simp [hs], fun e he hb => ?_⟩⟩
          have := (hops 0 hs).2
          simp only [Array.getElem?_eq_getElem hs, hjn, if_true, Array.all_eq_true', Bool.or_eq_true, Bool.not_eq_true', decide_eq_true_eq] at this
          rcases this e he with h | h
          · rw [hb] at h; cases h
          · omega
        | succ k ih2 =>
          intro j hj hjn hjl
          by_cases hex : ∃ j', j' < j ∧ listed.getD j' false = false
          · obtain ⟨j', h1, h2⟩ := hex
            exact ih2 j' (by omega) (by omega) h2
          · have hs : j < ops.size := by omega
            refine ⟨j, hjn, mem_ready.2 ⟨getD_in (by rw [inv.size]; exact hs) hjl, ops[j], by simp [hs], fun e he hb => ?_⟩⟩
            have := (hops j hs).2
            simp only [Array.getElem?_eq_getElem hs, hjn, if_true, Array.all_eq_true', Bool.or_eq_true, Bool.not_eq_true', decide_eq_true_eq] at this
            rcases this e he with h | h
            · rw [hb] at h; cases h
            · cases hq : listed.getD e.on false with
              | true => rfl
              | false => exact absurd ⟨e.on, h, hq⟩ hex
      obtain ⟨j, h1, h2⟩ := hsome
      obtain ⟨i, _, hi⟩ := hmin j j (Nat.le_refl _) h1 h2
      exact List.ne_nil_of_mem hi
    rw [show f + 1 + (ops.size - n) = (f + (ops.size - n)) + 1 by omega]
    refine ⟨fun h0 => absurd h0 hready, fun i hi => ?_⟩
    obtain ⟨hun, o, ho, hall⟩ := mem_ready.1 hi
    have his := hsz ho
    have hun2 : listed.getD i false = false := by
      have : i < listed.size := by rw [inv.size]; exact his
      simp [this] at hun ⊢; exact hun
    have hin : i < n := by
      refine Nat.lt_of_not_le fun hni => ?_
      have h2 := (hops i his).2
      simp only [ho, show ¬ i < n by omega, if_false, Bool.or_eq_true, Bool.and_eq_true, decide_eq_true_eq, List.all_eq_true, List.mem_range, waitsB, Array.any_eq_true', beq_iff_eq] at h2
      rcases h2 with h2 | ⟨h3, e, he, hb, heq⟩
      · obtain ⟨j, h1, h3⟩ := hsome
        obtain ⟨e, he, hb, heq⟩ := h2 j h1
        have := hall e he hb
        rw [heq, h3] at this
        cases this
      · have := hall e he hb
        rw [heq, inv.tail (i - 1) (by omega)] at this
        cases this
    have hdst := (hops i his).1
    have hdo : dstOf ops i = o.dst := by unfold dstOf; rw [ho]; rfl
    rw [hdo] at hdst
    have hev : ∀ s, isDst ops s = false → a.eval (.tmp s) = a0.eval (.tmp s) := fun s hs => by
      show a.tmps.getD s undef = a0.tmps.getD s undef
      rw [Array.getD_eq_getD_getElem?, Array.getD_eq_getD_getElem?, inv.out s hs]
    have hkn : ∀ j, waitsB o j = true → D j (outOf ops a j) w := fun j hj => by
      simp only [waitsB, Array.any_eq_true', Bool.and_eq_true, beq_iff_eq] at hj
      obtain ⟨e, he, hb, rfl⟩ := hj
      have hl := hall e he hb
      refine inv.know _ (Nat.lt_of_not_le fun h => ?_) hl
      rw [inv.tail _ h] at hl
      cases hl
    have hst := step i o hin ho a w (fun j => listed.getD j false) inv.ext hev hkn hun2 inv.glob
    have next : ∀ v w', (E w w' ∧ D i v w' ∧ G (fun j => if j = i then true else listed.getD j false) (fun j => if j = i then v else outOf ops a j) w') → wpAny P .any ops Q (f + (ops.size - n)) (listed.setIfInBounds i true) (a.put o.dst v) w' := by
      rintro v w' ⟨hE, hD, hG⟩
      have hoth : ∀ j, j ≠ i → outOf ops (a.put o.dst v) j = outOf ops a j := fun j hj => out_put_other fun s hs he => by
        rw [hs] at hdst
        simp only [Bool.and_eq_true, decide_eq_true_eq, List.all_eq_true, List.mem_range, Bool.or_eq_true, beq_iff_eq, bne_iff_ne, ne_eq] at hdst
        have hjs : j < ops.size := by
          unfold dstOf at he
          rcases Nat.lt_or_ge j ops.size with h | h
          · exact h
          · rw [Array.getElem?_eq_none h] at he; cases he
        rcases hdst.2 j hjs with h | h
        · exact hj h
        · exact h he
      have hself : ∀ s, o.dst = some s → outOf ops (a.put o.dst v) i = v := fun s hs => by
        rw [hs] at hdst ⊢
        simp only [Bool.and_eq_true, decide_eq_true_eq] at hdst
        exact out_put_self (by rw [hdo, hs]) (by rw [inv.fr, hN]; exact hdst.1)
      refine ih _ _ _ ?_ ⟨by simpa using inv.size, ?_, ?_, ?_, Etrans _ _ _ inv.ext hE, ?_, ?_, ?_⟩
      · have := count_set (fun j => !listed.getD j false) (fun j => !(listed.setIfInBounds i true).getD j false) i (by simp [hun2]) (by rw [getD_set_self (by rw [inv.size]; exact his)]; rfl) (fun j hj => by rw [getD_set_ne false (Ne.symm hj)]) n hin
        omega
      · intro j hj
        rw [getD_set_ne false (show i ≠ j by omega)]
        exact inv.tail j hj
      · cases hd : o.dst with
        | none => exact inv.fr
        | some s => simpa [Act.put] using inv.fr
      · cases hd : o.dst <;> exact inv.de
      · intro s hs
        cases hd : o.dst with
        | none => exact inv.out s hs
        | some t =>
          have : t ≠ s := fun e => by
            rw [isDst_of his (by rw [hdo, hd, e])] at hs
            cases hs
          simp only [Act.put]
          rw [Array.getElem?_setIfInBounds_ne this]
          exact inv.out s hs
      · intro j hj hl
        by_cases e : j = i
        · subst e
          cases hd : o.dst with
          | some s => rw [← hd, hself s hd]; exact hD
          | none => rw [hd] at hdst; simp only [decide_eq_true_eq] at hdst; omega
        · rw [hoth j e]
          rw [getD_set_ne false (Ne.symm e)] at hl
          exact stable _ _ _ _ (inv.know j hj hl) hE
      · refine Gcongr _ _ _ _ w' (fun j => ?_) (fun j hj => ?_) hG
        · by_cases e : j = i
          · subst e; rw [if_pos rfl, getD_set_self (by rw [inv.size]; exact his)]
          · rw [if_neg e, getD_set_ne false (Ne.symm e)]
        · by_cases e : j = i
          · subst e
            rw [if_pos rfl]
            cases hd : o.dst with
            | some s => rw [← hd, hself s hd]
            | none => rw [hd] at hdst; simp only [decide_eq_true_eq] at hdst; omega
          · rw [if_neg e, hoth j e]
    unfold wpOp
    simp only [ho]
    unfold looseStep at hst
    split
    · rename_i hw
      rw [if_pos hw] at hst
      refine .inl (Oper.wp_mono ?_ hst)
      rintro a' w' ⟨v, rfl, hR⟩
      exact next v w' hR
    · rename_i hw
      rw [if_neg hw] at hst
      exact next undef w hst

/-- What is asked of each of the first operations, one behind the other. -/
def looseAll (P : Program) (ops : Array Oper) (Q : Exit → Act → World → Prop) (a0 : Act) (w0 : World) (E : World → World → Prop) (D : Nat → Value → World → Prop) (G : (Nat → Bool) → (Nat → Value) → World → Prop) : Nat → List Oper → Prop
  | _, [] => True
  | i, o :: r => (∀ a w L, E w0 w → (∀ s, isDst ops s = false → a.eval (.tmp s) = a0.eval (.tmp s)) → (∀ j, waitsB o j = true → D j (outOf ops a j) w) → L i = false → G L (outOf ops a) w →
      looseStep P ops o a w Q fun v w' => E w w' ∧ D i v w' ∧ G (fun j => if j = i then true else L j) (fun j => if j = i then v else outOf ops a j) w') ∧ looseAll P ops Q a0 w0 E D G (i + 1) r
theorem looseAll_at {a0 : Act} {w0 : World} {E : World → World → Prop} {D : Nat → Value → World → Prop} {G : (Nat → Bool) → (Nat → Value) → World → Prop} :
    ∀ (l : List Oper) (k : Nat), looseAll P ops Q a0 w0 E D G k l → ∀ (i : Nat) (o : Oper), l[i]? = some o → ∀ a w L, E w0 w → (∀ s, isDst ops s = false → a.eval (.tmp s) = a0.eval (.tmp s)) → (∀ j, waitsB o j = true → D j (outOf ops a j) w) → L (k + i) = false → G L (outOf ops a) w →
      looseStep P ops o a w Q fun v w' => E w w' ∧ D (k + i) v w' ∧ G (fun j => if j = k + i then true else L j) (fun j => if j = k + i then v else outOf ops a j) w'
  | [], _, _, i, o, h => by simp at h
  | x :: r, k, hh, 0, o, h => by
    simp only [List.getElem?_cons_zero, Option.some.injEq] at h
    subst h
    exact hh.1
  | x :: r, k, hh, i + 1, o, h => by
    simp only [List.getElem?_cons_succ] at h
    have := looseAll_at r (k + 1) hh.2 i o h
    rw [show k + 1 + i = k + (i + 1) by omega] at this
    exact this

theorem looseAll_nil {a0 : Act} {w0 : World} {E : World → World → Prop} {D : Nat → Value → World → Prop} {G : (Nat → Bool) → (Nat → Value) → World → Prop} {i : Nat} : looseAll P ops Q a0 w0 E D G i [] := trivial
theorem looseAll_cons {a0 : Act} {w0 : World} {E : World → World → Prop} {D : Nat → Value → World → Prop} {G : (Nat → Bool) → (Nat → Value) → World → Prop} {i k : Nat} {o : Oper} {r : List Oper} (hk : i + 1 = k)
    (h : ∀ a w L, E w0 w → (∀ s, isDst ops s = false → a.eval (.tmp s) = a0.eval (.tmp s)) → (∀ j, waitsB o j = true → D j (outOf ops a j) w) → L i = false → G L (outOf ops a) w →
      looseStep P ops o a w Q fun v w' => E w w' ∧ D i v w' ∧ G (fun j => if j = i then true else L j) (fun j => if j = i then v else outOf ops a j) w')
    (hr : looseAll P ops Q a0 w0 E D G k r) : looseAll P ops Q a0 w0 E D G i (o :: r) := by subst hk; exact ⟨h, hr⟩

/-- THE LAW: n operations in whatever order, the rest in theirs. -/
theorem wp_region_loose {id : Nat} {a0 : Act} {w0 : World} {l : List Oper} (n N : Nat) (hm : P.follows .mixedOrders = true) (hB : looseB l.toArray n N = true) (hN : a0.tmps.size = N)
    (E : World → World → Prop) (Erefl : ∀ w, E w w) (Etrans : ∀ a b c, E a b → E b c → E a c) (D : Nat → Value → World → Prop) (G : (Nat → Bool) → (Nat → Value) → World → Prop)
    (stable : ∀ i v w w', D i v w → E w w' → D i v w')
    (Gcongr : ∀ L L' V V' w, (∀ j, L j = L' j) → (∀ j, L j = true → V j = V' j) → G L V w → G L' V' w)
    (g0 : G (fun _ => false) (outOf l.toArray a0) w0.drew)
    (heads : looseAll P l.toArray Q a0 w0.drew E D G 0 (l.take n))
    (hend : ∀ a w, E w0.drew w → a.tmps.size = N → a.defers = a0.defers → (∀ s, isDst l.toArray s = false → a.tmps[s]? = a0.tmps[s]?) → (∀ j, j < n → D j (outOf l.toArray a j) w) → G (fun j => decide (j < n)) (outOf l.toArray a) w → wpList P l.toArray Q (l.drop n) a w) :
    (Code.region id l.toArray true).wp P Q a0 w0 := by
  have hn : n ≤ l.toArray.size := by
    simp only [looseB, Bool.and_eq_true, decide_eq_true_eq] at hB
    exact hB.1.1
  refine wp_region_any hm ?_
  have h0 : ∀ j, (Array.replicate l.toArray.size false).getD j false = false := fun j => getD_replicate_false _ _
  have hc : (List.range n).countP (fun j => !(Array.replicate l.toArray.size false).getD j false) = n := by
    rw [List.countP_eq_length.2 (fun j _ => by simp only [h0 j]; rfl)]
    simp
  have key := loose_any (P := P) (ops := l.toArray) (Q := Q) (n := n) (N := N) (a0 := a0) (w0 := w0.drew) (E := E) (D := D) (G := G) hB hN Etrans stable
    (fun i o hi ho => by
      have := looseAll_at (l.take n) 0 heads i o (by rw [List.getElem?_take_of_lt hi]; simpa using ho)
      rw [Nat.zero_add] at this
      exact this) hend Gcongr n (Array.replicate l.toArray.size false) a0 w0.drew hc
    ⟨by simp, fun j _ => h0 j, rfl, rfl, Erefl _, fun _ _ => rfl, fun j _ hl => (by rw [h0 j] at hl; cases hl), Gcongr _ _ _ _ _ (fun j => (h0 j).symm) (fun _ _ => rfl) g0⟩
  rwa [show n + (l.toArray.size - n) = l.toArray.size by omega] at key

/-- An operation without a guard that yields a value. -/
theorem loose_val {o : Oper} {a : Act} {w w' : World} {v : Value} {R : Value → World → Prop} (hg : o.guard = none) (h : (execOp a.eval o).run P w = .ok (.value v) w') (hR : R v w') : looseStep P ops o a w Q R := by
  unfold looseStep
  rw [if_pos (by simp [Region.wanted, hg])]
  unfold Oper.wp
  rw [h]
  exact ⟨v, rfl, hR⟩
/-- One that calls. -/
theorem loose_call {o : Oper} {a : Act} {w : World} {f : FuncId} {args : Array Value} {R : Value → World → Prop} (hg : o.guard = none) (h : (execOp a.eval o).run P w = .ok (.enter f args) w) (hc : Calls P f args w fun e w' => ∃ v, e = .returned v ∧ R v w') : looseStep P ops o a w Q R := by
  unfold looseStep
  rw [if_pos (by simp [Region.wanted, hg])]
  unfold Oper.wp
  rw [h]
  refine Calls.mono hc ?_
  rintro e w' ⟨v, rfl, hR⟩
  exact ⟨v, rfl, hR⟩

/-- What is known of each result: a value of its own (cs), or something that newer worlds keep (sp). -/
def looseD (sp : Nat → Option (Value → World → Prop)) (cs : Nat → Value) (i : Nat) (v : Value) (w : World) : Prop := match sp i with
  | some p => p v w
  | none => v = cs i
theorem looseD_stable {sp : Nat → Option (Value → World → Prop)} {cs : Nat → Value} {E : World → World → Prop} (h : ∀ i p, sp i = some p → ∀ v w w', p v w → E w w' → p v w') :
    ∀ i v w w', looseD sp cs i v w → E w w' → looseD sp cs i v w' := by
  intro i v w w' hd hE
  unfold looseD at *
  cases hs : sp i with
  | none => rw [hs] at hd; exact hd
  | some p => rw [hs] at hd; exact h i p hs v w w' hd hE
/-- A frame, slot by slot. -/
theorem act_lit {a : Act} {ys : Array Value} (hd : a.defers = []) (hs : a.tmps.size = ys.size) (h : ∀ s, s < ys.size → a.tmps.getD s undef = ys.getD s undef) : a = ⟨ys, []⟩ := by
  obtain ⟨t, d⟩ := a
  simp only at hd hs h
  subst hd
  congr 1
  apply Array.ext hs
  intro i h1 h2
  have := h i h2
  simpa [h1, h2] using this
theorem box_range {w : World} {g : Nat} {cs : Array Value} (hb : Box w g cs) : w.rangeAt g 0 cs.toList := fun j v hv => by
  rw [Nat.zero_add, hb.2.1 j]
  simpa using hv
/-- A load of a whole great struct, by a law (a walk of it by simp costs the kernel gigabytes from some twenty cells on). -/
theorem loose_load {o : Oper} {a : Act} {w : World} {R : Value → World → Prop} (hg : o.guard = none) (ty : TypeId) (x : Operand) (ho : o.op = .load ty x) (b : Nat) (hx : a.eval x = .pointer (some ⟨b, 0, none⟩))
    (cs : Array Value) (d : TypeDesc) (hb : Box w b cs) (hu : P.underlying ty = some d) (hd : d.isRow = true) (hi : (P.info? ty).map (·.size) = some cs.toList.length) (hR : R (.agg cs) w) : looseStep P ops o a w Q R := by
  refine loose_val (v := .agg cs) (w' := w) hg ?_ hR
  unfold execOp
  have h := run_loadAt_mid (P := P) w b 0 ty cs.toList d (box_range hb) hu hd hi
  simp only [ho, hx, h, Sem.run_bind, Sem.run_pure, Result.andThen_ok]
/-- The same in a plain region. -/
theorem wpList_load_box {rest : List Oper} {op : Oper} {a : Act} {w : World} (hg : op.guard = none) (ty : TypeId) (x : Operand) (ho : op.op = .load ty x) (b : Nat) (hx : a.eval x = .pointer (some ⟨b, 0, none⟩))
    (cs : Array Value) (d : TypeDesc) (hb : Box w b cs) (hu : P.underlying ty = some d) (hd : d.isRow = true) (hi : (P.info? ty).map (·.size) = some cs.toList.length)
    (h : wpList P ops Q rest (a.put op.dst (.agg cs)) w) : wpList P ops Q (op :: rest) a w :=
  wpList_load_mid hg ty x ho b 0 hx cs.toList d (box_range hb) hu hd hi (by simpa using h)
theorem loose_valg {o : Oper} {a : Act} {w w' : World} {v : Value} {R : Value → World → Prop} (hw : Region.wanted o (yielded ops a.tmps) = true) (h : (execOp a.eval o).run P w = .ok (.value v) w') (hR : R v w') : looseStep P ops o a w Q R := by
  unfold looseStep
  rw [if_pos hw]
  unfold Oper.wp
  rw [h]
  exact ⟨v, rfl, hR⟩
theorem loose_callg {o : Oper} {a : Act} {w : World} {f : FuncId} {args : Array Value} {R : Value → World → Prop} (hw : Region.wanted o (yielded ops a.tmps) = true) (h : (execOp a.eval o).run P w = .ok (.enter f args) w) (hc : Calls P f args w fun e w' => ∃ v, e = .returned v ∧ R v w') : looseStep P ops o a w Q R := by
  unfold looseStep
  rw [if_pos hw]
  unfold Oper.wp
  rw [h]
  refine Calls.mono hc ?_
  rintro e w' ⟨v, rfl, hR⟩
  exact ⟨v, rfl, hR⟩
theorem loose_skip {o : Oper} {a : Act} {w : World} {R : Value → World → Prop} (hw : Region.wanted o (yielded ops a.tmps) = false) (hR : R undef w) : looseStep P ops o a w Q R := by
  unfold looseStep
  rw [if_neg (by rw [hw]; simp)]
  exact hR
/-- A guard is read. -/
theorem loose_guard {o : Oper} {a : Act} {g : Nat} {s : Tmp} {b c : Bool} (hg : o.guard = some (g, b)) (hd : dstOf ops g = some s) (h : a.eval (.tmp s) = .bool c) : Region.wanted o (yielded ops a.tmps) = (c == b) := by
  have h2 : a.tmps[s]? = some (.bool c) := by
    have h3 : a.tmps.getD s undef = .bool c := h
    rw [Array.getD_eq_getD_getElem?] at h3
    cases hx : a.tmps[s]? with
    | none => rw [hx] at h3; cases h3
    | some x => rw [hx] at h3; rw [← h3]; rfl
  have h4 : yielded ops a.tmps g = some c := by
    unfold yielded
    unfold dstOf at hd
    rw [hd]
    simp [h2]
  simp [Region.wanted, hg, h4]
theorem wpList_val {rest : List Oper} {o : Oper} {a : Act} {w w' : World} {v : Value} (hg : o.guard = none) (h : (execOp a.eval o).run P w = .ok (.value v) w') (hr : wpList P ops Q rest (a.put o.dst v) w') : wpList P ops Q (o :: rest) a w := by
  unfold wpList
  rw [if_pos (by simp [Region.wanted, hg])]
  unfold Oper.wp
  rw [h]
  exact .inl hr
end
end Go.Proofs.Ytmemhlhjkpijpaa
