/- holds.truths: what it needs, as it is put together in a variable; the parts of a formula. -/
import Derived.Test.YtmemhlhjkpijpaaHolG
import Derived.Test.YtmemhlhjkpijpaaBlks
namespace Go.Proofs.Ytmemhlhjkpijpaa
open Go.RowKit
set_option linter.unusedVariables false
set_option linter.unusedSimpArgs false
set_option maxRecDepth 100000
attribute [local go_sem] cell_set_ite Near.cell Near.frozen

theorem bools_info : (Try.prog.info? 40).map (fun i => (i.zero, i.size, i.bytes)) = some (some (.slice none 0 0), 1, 24) := by kernel_rfl
theorem own_stays {w w' : World} {base e n : Nat} {v : Value} {cs : List Value} (h : w.ownsRow base e 1 v n cs) (hb : Below w.heap.size w w') : w'.ownsRow base e 1 v n cs := by
  refine ⟨h.1, ?_⟩
  rcases h.2 with h2 | ⟨g, cap, cur, hv, hg, hh, r⟩
  · exact .inl h2
  · exact .inr ⟨g, cap, cur, hv, hg, by rw [hb.block g (Array.getElem?_eq_some_iff.1 hh).1]; exact hh, r⟩
/-- Lists of truths, of n each, put together in the variable q. -/
structure TrS (w1 : World) (q n : Nat) (F : Nat → Nat → Bool) (k : Nat) (v : Value) (vs : List Value) (wr : World) : Prop where
  q1 : q < w1.heap.size
  own : wr.ownsRow w1.heap.size 40 1 v vs.length vs
  bel : Below q w1 wr
  oth : ∀ x, q < x → x < w1.heap.size → wr.heap[x]? = w1.heap[x]?
  box : Box wr q #[v]
  len : vs.length = k
  els : ∀ i, i < k → ∃ g, vs.getD i undef = .slice (some ⟨g, 0, none⟩) n n ∧ Col wr g n (fun j => .bool (F i j)) ∧ some g ≠ v.ownBlock ∧ w1.heap.size ≤ g
namespace TrS
variable {w1 wr w3 w4 : World} {q n k : Nat} {F : Nat → Nat → Bool} {v v' : Value} {vs : List Value}
theorem first {w1 : World} {q : Nat} (n : Nat) (F : Nat → Nat → Bool) (h : Box w1 q #[.slice none 0 0]) : TrS w1 q n F 0 (.slice none 0 0) [] w1 :=
  ⟨h.1, World.ownsRow_nil _ _ _ _, Below.refl _ _, fun _ _ _ => rfl, h, rfl, fun i hi => absurd hi (by omega)⟩
theorem below (h : TrS w1 q n F k v vs wr) (hb : Below wr.heap.size wr w3) : TrS w1 q n F k v vs w3 := by
  have hq := h.box.1
  have hs := h.bel.size
  refine ⟨h.q1, own_stays h.own hb, h.bel.trans (hb.mono (by omega)), fun x h1 h2 => ?_, h.box.below hb, h.len, fun i hi => ?_⟩
  · rw [hb.block x (by omega)]; exact h.oth x h1 h2
  · obtain ⟨g, e1, e2, e3, e4⟩ := h.els i hi
    exact ⟨g, e1, e2.below hb, e3, e4⟩
theorem next {g : Nat} (h : TrS w1 q n F k v vs w3) (hC : Col w3 g n (fun j => .bool (F k j))) (hg : some g ≠ v.ownBlock) (hg1 : w1.heap.size ≤ g) {y : Value} {t : TypeId} (hy : y = .slice (some ⟨g, 0, none⟩) n n)
    (h1 : w4.ownsRow w1.heap.size 40 1 v' (vs.length + 1) (vs ++ [y])) (h2 : (w3.alloc (.cells #[y] t)).grownBy w4 v.ownBlock) (h3 : v'.ownBlock = v.ownBlock ∨ v'.ownBlock = some (w3.heap.size + 1)) :
    TrS w1 q n F (k + 1) v' (vs ++ [y]) (w4.setCell ⟨q, 0, none⟩ v') := by
  subst hy
  have q1 := h.q1
  have s3 := h.bel.size
  have lo : ∀ x, v.ownBlock = some x → w1.heap.size ≤ x := fun x hx => (h.own.lt x hx).1
  have lo2 : ∀ x, v'.ownBlock = some x → w1.heap.size ≤ x := fun x hx => (h1.lt x hx).1
  have hblk : ∀ x, x < w3.heap.size → some x ≠ v.ownBlock → w4.heap[x]? = w3.heap[x]? := fun x hx hne => by
    rw [h2.block x (by simp; omega) hne]
    exact ((below_alloc_on (Below.refl w3.heap.size w3) _).block x hx)
  have hset : ∀ x, x ≠ q → (w4.setCell ⟨q, 0, none⟩ v').heap[x]? = w4.heap[x]? := fun x hx => heap_setCell_other w4 ⟨q, 0, none⟩ x v' (fun e => hx e)
  have hq3 := h.box.1
  have hgr : w4.grownBy (w4.setCell ⟨q, 0, none⟩ v') (some q) := ⟨rfl, rfl, rfl, by simp, fun x _ hx => hset x (fun e => hx (by rw [e]))⟩
  have hB4 : Box w4 q #[v] := h.box.of_block (hblk q hq3 (fun e => by have := lo q e.symm; omega))
  refine ⟨q1, ?_, ?_, fun x a b => ?_, hB4.one_set v', by simp [h.len], fun i hi => ?_⟩
  · have := h1.kept hgr (by
      cases hv : v'.ownBlock with
      | none => exact .inl rfl
      | some x => exact .inr (fun e => by cases e; have := lo2 q hv; omega))
    simpa using this
  · refine (((h.bel.alloc (by omega) _).grown h2 (by simp; omega) (fun x hx => by have := lo x hx; omega))).setCell (by exact Nat.le_refl _) v'
  · rw [hset x (by omega), hblk x (by omega) (fun e => by have := lo x e.symm; omega)]
    exact h.oth x a b
  · have keep : ∀ {g : Nat} {G : Nat → Value}, Col w3 g n G → some g ≠ v.ownBlock → w1.heap.size ≤ g → Col (w4.setCell ⟨q, 0, none⟩ v') g n G ∧ some g ≠ v'.ownBlock := fun {g G} c1 c2 c3 => by
      refine ⟨(c1.of_block (hblk g c1.lt c2)).far (by show q ≠ g; omega) v', ?_⟩
      rcases h3 with e | e
      · rw [e]; exact c2
      · rw [e]; intro he; cases he; have := c1.lt; omega
    by_cases e : i = k
    · subst e
      obtain ⟨k1, k2⟩ := keep hC hg hg1
      refine ⟨g, ?_, k1, k2, hg1⟩
      rw [← h.len, List.getD_eq_getElem?_getD, List.getElem?_append_right (Nat.le_refl _)]
      simp
    · obtain ⟨g', e1, e2, e3, e4⟩ := h.els i (by omega)
      obtain ⟨k1, k2⟩ := keep e2 e3 e4
      refine ⟨g', ?_, k1, k2, e4⟩
      have hl := h.len
      rw [List.getD_eq_getElem?_getD, List.getElem?_append_left (by omega), ← List.getD_eq_getElem?_getD]
      exact e1
theorem slot (h : TrS w1 q n F k v vs w3) {y : Value} {t : TypeId} (h2 : (w3.alloc (.cells #[y] t)).grownBy w4 v.ownBlock) : w4.cell? ⟨q, 0, none⟩ = some v ∧ w4.frozen? ⟨q, 0, none⟩ = false ∧ q < w4.heap.size := by
  have hq3 := h.box.1
  have q1 := h.q1
  have hB4 : Box w4 q #[v] := h.box.of_block (by
    rw [h2.block q (by simp; omega) (fun e => by have := (h.own.lt q e.symm).1; omega)]
    exact ((below_alloc_on (Below.refl w3.heap.size w3) _).block q hq3))
  exact ⟨hB4.2.1 0, hB4.2.2 0, hB4.1⟩
/-- All of them, as the closures find them. -/
theorem blw (h : TrS w1 q n F k v vs wr) (hk : 0 < k) : Blw wr q k n F := by
  have hl := h.len
  rcases h.own.2 with ⟨_, h0⟩ | ⟨g, cap, cur, hv, hbg, hg, hnc, _⟩
  · omega
  · have hB := h.box
    have hO := h.own
    subst hv
    rw [hl] at hB hO
    refine ⟨g, 0, cap, Held.of_box hB, (Array.getElem?_eq_some_iff.1 hg).1, fun i hi => ?_⟩
    obtain ⟨g', e1, e2, e3, e4⟩ := h.els i hi
    refine ⟨g', ?_, e2⟩
    rw [Nat.zero_add, hO.cellAt i (by omega), ← e1]
    simp [List.getD, List.getElem?_eq_getElem (show i < vs.length by omega)]
end TrS

/-- What holds.truths makes for 'since', in whatever order: two lists of numbers, two variables that hold them. -/
def snP : Nat → Option (Value → World → Prop) := fun i => if i = 3 ∨ 7 ≤ i then some fun _ _ => True else none
theorem snP_stable {B : Nat} : ∀ i p, snP i = some p → ∀ v w w', p v w → Below B w w' → p v w' := by
  intro i p hp v u u' h hE
  unfold snP at hp
  split at hp
  · cases hp; trivial
  · cases hp
def snC (i : Nat) : Nat := if i = 0 then 3 else 7
def snF (f g : Nat → Bool) (i : Nat) : Nat → Int := if i = 0 then ltV f false else ltV g true
def snG (B n : Nat) (F : Nat → Nat → Int) (L : Nat → Bool) (V : Nat → Value) (w : World) : Prop := ∃ g q : Nat → Nat, ∀ i, i < 2 →
  (L (10 + i) = true → L (snC i) = true ∧ L (8 + i) = true) ∧
  (L (snC i) = true → V (snC i) = .slice (some ⟨g i, 0, none⟩) n n ∧ B ≤ g i ∧ Col w (g i) n (fun k => .int .i64 (F i k)) ∧ ∀ j, j < 2 → L (8 + j) = true → g i ≠ q j) ∧
  (L (8 + i) = true → V (8 + i) = .pointer (some ⟨q i, 0, none⟩) ∧ B ≤ q i ∧ Box w (q i) #[if L (10 + i) = true then .slice (some ⟨g i, 0, none⟩) n n else .slice none 0 0] ∧ ∀ j, j < 2 → j ≠ i → L (8 + j) = true → q j ≠ q i)
section
variable {B n : Nat} {F : Nat → Nat → Int} {L L' : Nat → Bool} {V V' : Nat → Value} {w w' : World}
theorem snG_congr (h1 : ∀ j, L j = L' j) (hc : ∀ i, i < 2 → L (snC i) = true → V (snC i) = V' (snC i)) (ha : ∀ i, i < 2 → L (8 + i) = true → V (8 + i) = V' (8 + i)) (h : snG B n F L V w) : snG B n F L' V' w := by
  obtain ⟨g, q, h⟩ := h
  refine ⟨g, q, fun i hi => ?_⟩
  obtain ⟨k1, k2, k3⟩ := h i hi
  rw [← h1, ← h1, ← h1]
  refine ⟨k1, fun a => ?_, fun a => ?_⟩
  · obtain ⟨m1, m2, m3, m4⟩ := k2 a
    exact ⟨(hc i hi a) ▸ m1, m2, m3, fun j hj b => m4 j hj ((h1 _).trans b)⟩
  · obtain ⟨m1, m2, m3, m4⟩ := k3 a
    exact ⟨(ha i hi a) ▸ m1, m2, m3, fun j hj hne b => m4 j hj hne ((h1 _).trans b)⟩
theorem snG_first : snG B n F (fun _ => false) V w := ⟨fun _ => 0, fun _ => 0, fun i hi => ⟨fun h => (by cases h), fun h => (by cases h), fun h => (by cases h)⟩⟩
theorem snC_ne {i : Nat} : snC i = 3 ∨ snC i = 7 := by unfold snC; split <;> simp
theorem snG_same {i : Nat} {v : Value} (h3 : i ≠ 3 ∧ i ≠ 7) (h8 : i < 8) (hb : Below w.heap.size w w') (h : snG B n F L V w) : snG B n F (fun j => if j = i then true else L j) (fun j => if j = i then v else V j) w' := by
  obtain ⟨g, q, h⟩ := h
  refine ⟨g, q, fun k hk => ?_⟩
  obtain ⟨k1, k2, k3⟩ := h k hk
  have e1 : snC k ≠ i := by have := @snC_ne k; omega
  have e8 : ∀ j, (8 + j = i) = False := fun j => by simp; omega
  have e10 : ∀ j, (10 + j = i) = False := fun j => by simp; omega
  simp only [if_neg e1, e8, e10, if_false]
  refine ⟨k1, fun a => ?_, fun a => ?_⟩
  · obtain ⟨m1, m2, m3, m4⟩ := k2 a
    exact ⟨m1, m2, m3.below hb, m4⟩
  · obtain ⟨m1, m2, m3, m4⟩ := k3 a
    exact ⟨m1, m2, m3.below hb, m4⟩
theorem snG_call {k g0 : Nat} (hk : k < 2) (hB : B ≤ w.heap.size) (hL : L (snC k) = false) (hC : Col w' g0 n (fun j => .int .i64 (F k j))) (hg : w.heap.size ≤ g0) (hb : Below w.heap.size w w') (h : snG B n F L V w) :
    snG B n F (fun j => if j = snC k then true else L j) (fun j => if j = snC k then .slice (some ⟨g0, 0, none⟩) n n else V j) w' := by
  obtain ⟨g, q, h⟩ := h
  have e8 : ∀ j, j < 2 → (8 + j = snC k) = False := fun j hj => by have := @snC_ne k; simp; omega
  have e10 : ∀ j, j < 2 → (10 + j = snC k) = False := fun j hj => by have := @snC_ne k; simp; omega
  refine ⟨fun i => if i = k then g0 else g i, q, fun i hi => ?_⟩
  obtain ⟨k1, k2, k3⟩ := h i hi
  simp only [e8 i hi, e10 i hi, if_false]
  by_cases e : i = k
  · subst e
    simp only [if_true]
    refine ⟨fun a => ⟨trivial, (k1 a).2⟩, fun _ => ⟨trivial, by omega, hC, fun j hj b => ?_⟩, fun a => ?_⟩
    · simp only [e8 j hj, if_false] at b
      have := ((h j hj).2.2 b).2.2.1.1
      omega
    · obtain ⟨m1, m2, m3, m4⟩ := k3 a
      have hn : ¬ L (10 + i) = true := fun x => by rw [(k1 x).1] at hL; cases hL
      rw [if_neg hn] at m3 ⊢
      refine ⟨m1, m2, m3.below hb, fun j hj hne b => ?_⟩
      simp only [e8 j hj, if_false] at b
      exact m4 j hj hne (by first | exact b | simpa using b)
  · have ec : snC i ≠ snC k := by unfold snC; split <;> split <;> omega
    simp only [if_neg ec, if_neg e]
    refine ⟨k1, fun a => ?_, fun a => ?_⟩
    · obtain ⟨m1, m2, m3, m4⟩ := k2 a
      refine ⟨m1, m2, m3.below hb, fun j hj b => ?_⟩
      simp only [e8 j hj, if_false] at b
      exact m4 j hj (by first | exact b | simpa using b)
    · obtain ⟨m1, m2, m3, m4⟩ := k3 a
      refine ⟨m1, m2, m3.below hb, fun j hj hne b => ?_⟩
      simp only [e8 j hj, if_false] at b
      exact m4 j hj hne (by first | exact b | simpa using b)
theorem snG_alloc {k : Nat} {t : TypeId} (hk : k < 2) (hB : B ≤ w.heap.size) (hL : L (8 + k) = false) (h : snG B n F L V w) :
    snG B n F (fun j => if j = 8 + k then true else L j) (fun j => if j = 8 + k then .pointer (some ⟨w.heap.size, 0, none⟩) else V j) (w.alloc (.cells #[.slice none 0 0] t)) := by
  obtain ⟨g, q, h⟩ := h
  refine ⟨g, fun i => if i = k then w.heap.size else q i, fun i hi => ?_⟩
  obtain ⟨k1, k2, k3⟩ := h i hi
  have ec : ∀ j, (snC j = 8 + k) = False := fun j => by have := @snC_ne j; simp; omega
  have e10 : ∀ j, (10 + j = 8 + k) = False := fun j => by simp; omega
  have e8 : ∀ j, (8 + j = 8 + k) = (j = k) := fun j => by simp
  simp only [ec, e10, e8, if_false]
  have nst : ¬ L (10 + k) = true := fun x => by have := ((h k hk).1 x).2; rw [hL] at this; cases this
  refine ⟨fun a => ?_, fun a => ?_, fun a => ?_⟩
  · refine ⟨(k1 a).1, ?_⟩
    by_cases e : i = k
    · rw [if_pos e]
    · rw [if_neg e]; exact (k1 a).2
  · obtain ⟨m1, m2, m3, m4⟩ := k2 a
    refine ⟨m1, m2, m3.alloc _, fun j hj b => ?_⟩
    by_cases e : j = k
    · rw [if_pos e]; have := m3.lt; omega
    · rw [if_neg e] at b ⊢; exact m4 j hj b
  · by_cases e : i = k
    · subst e
      simp only [if_true]
      refine ⟨trivial, hB, ?_, fun j hj hne b => ?_⟩
      · rw [if_neg nst]; exact box_new _ _ _
      · rw [if_neg hne] at b ⊢
        have := ((h j hj).2.2 b).2.2.1.1
        omega
    · simp only [if_neg e] at a ⊢
      obtain ⟨m1, m2, m3, m4⟩ := k3 a
      refine ⟨m1, m2, m3.alloc _, fun j hj hne b => ?_⟩
      by_cases ej : j = k
      · rw [if_pos ej]; have := m3.1; omega
      · rw [if_neg ej] at b ⊢; exact m4 j hj hne b
theorem snG_get {k : Nat} (hk : k < 2) (hc : L (snC k) = true) (ha : L (8 + k) = true) (hs : L (10 + k) = false) (h : snG B n F L V w) :
    ∃ g q, V (snC k) = .slice (some ⟨g, 0, none⟩) n n ∧ V (8 + k) = .pointer (some ⟨q, 0, none⟩) ∧ B ≤ q ∧ Box w q #[.slice none 0 0] ∧
      ∀ {v : Value}, snG B n F (fun j => if j = 10 + k then true else L j) (fun j => if j = 10 + k then v else V j) (w.setCell ⟨q, 0, none⟩ (.slice (some ⟨g, 0, none⟩) n n)) := by
  obtain ⟨g, q, h⟩ := h
  obtain ⟨k1, k2, k3⟩ := h k hk
  obtain ⟨a1, a2, a3, a4⟩ := k2 hc
  obtain ⟨b1, b2, b3, b4⟩ := k3 ha
  rw [if_neg (by rw [hs]; simp)] at b3
  refine ⟨g k, q k, a1, b1, b2, b3, fun {v} => ⟨g, q, fun i hi => ?_⟩⟩
  obtain ⟨i1, i2, i3⟩ := h i hi
  have ec : ∀ j, (snC j = 10 + k) = False := fun j => by have := @snC_ne j; simp; omega
  have e8 : ∀ j, j < 2 → (8 + j = 10 + k) = False := fun j hj => by simp; omega
  have e10 : ∀ j, (10 + j = 10 + k) = (j = k) := fun j => by simp
  simp only [ec, e8 i hi, e10, if_false]
  refine ⟨fun a => ?_, fun a => ?_, fun a => ?_⟩
  · by_cases e : i = k
    · subst e; exact ⟨hc, ha⟩
    · rw [if_neg e] at a; exact i1 a
  · obtain ⟨m1, m2, m3, m4⟩ := i2 a
    refine ⟨m1, m2, m3.far (fun e => m4 k hk ha e.symm) _, fun j hj b => ?_⟩
    simp only [e8 j hj, if_false] at b
    exact m4 j hj (by first | exact b | simpa using b)
  · obtain ⟨m1, m2, m3, m4⟩ := i3 a
    refine ⟨m1, m2, ?_, fun j hj hne b => ?_⟩
    · by_cases e : i = k
      · subst e
        rw [if_pos rfl, if_pos rfl]
        exact b3.one_set _
      · rw [if_neg e]
        exact m3.far (fun e2 => m4 k hk (fun x => e x.symm) ha e2) _
    · simp only [e8 j hj, if_false] at b
      exact m4 j hj hne (by first | exact b | simpa using b)
theorem snG_last (h : snG B n F (fun j => decide (j < 12)) V w) : ∃ gl gr qa qb, V 3 = .slice (some ⟨gl, 0, none⟩) n n ∧ V 7 = .slice (some ⟨gr, 0, none⟩) n n ∧ V 8 = .pointer (some ⟨qa, 0, none⟩) ∧ V 9 = .pointer (some ⟨qb, 0, none⟩) ∧ Lst w qa n (F 0) ∧ Lst w qb n (F 1) := by
  obtain ⟨g, q, h⟩ := h
  obtain ⟨_, a2, a3⟩ := h 0 (by omega)
  obtain ⟨_, b2, b3⟩ := h 1 (by omega)
  obtain ⟨m1, m2, m3, m4⟩ := a2 (by decide)
  obtain ⟨n1, n2, n3, n4⟩ := a3 (by decide)
  obtain ⟨r1, r2, r3, r4⟩ := b2 (by decide)
  obtain ⟨s1, s2, s3, s4⟩ := b3 (by decide)
  rw [if_pos (by decide)] at n3 s3
  exact ⟨g 0, g 1, q 0, q 1, m1, r1, n1, s1, ⟨g 0, Held.of_box n3, m3⟩, ⟨g 1, Held.of_box s3, r3⟩⟩
end

theorem pa_none (w : World) : Calls Try.prog 76 #[.agg #[]] w fun e w' => e = .returned (.slice none 0 0) ∧ Below w.heap.size w w' := by
  go_enter Try.func76, Try.ntmps76
  go_wp2_with (fail)
  all_goals go_ret
  all_goals exact ⟨rfl, by (repeat (first | (with_reducible exact Below.refl _ _) | (with_reducible assumption) | (with_reducible refine Near.up _ ?_) | (with_reducible refine Below.drew ?_) | (with_reducible refine below_alloc_on ?_ _) | (with_reducible refine below_set_on ?_ (by first | (simp; done) | (simp; omega) | omega) _)))⟩
def PaV (n : Nat) (F : Nat → Value) (w : World) (e : Ending) (w' : World) : Prop := ∃ g, e = .returned (.slice (some ⟨g, 0, none⟩) n n) ∧ Col w' g n F ∧ w.heap.size ≤ g ∧ Below w.heap.size w w'
theorem pa_one (a : Mn) (w : World) : Calls Try.prog 77 #[.agg #[a.val]] w (PaV 1 (fun _ => a.val) w) := by
  obtain ⟨T, v, e⟩ := a.form
  rw [e]
  clear e
  go_enter Try.func77, Try.ntmps77
  go_wp2_with (fail)
  all_goals go_ret
  refine ⟨_, rfl, ⟨by simp, fun i hi => ?_, fun i => ?_⟩, by simp, by (repeat (first | (with_reducible exact Below.refl _ _) | (with_reducible assumption) | (with_reducible refine Near.up _ ?_) | (with_reducible refine Below.drew ?_) | (with_reducible refine below_alloc_on ?_ _) | (with_reducible refine below_set_on ?_ (by first | (simp; done) | (simp; omega) | omega) _)))⟩
  · obtain rfl : i = 0 := by omega
    first | rfl | simp
  · exact (box_at _ _ _ (by simp)).2.2 i
theorem pa_two (a b : Mn) (w : World) : Calls Try.prog 78 #[.agg #[a.val, b.val]] w (PaV 2 (fun i => if i = 0 then a.val else b.val) w) := by
  obtain ⟨T, v, e⟩ := a.form
  obtain ⟨U, x, f⟩ := b.form
  rw [e, f]
  clear e f
  go_enter Try.func78, Try.ntmps78
  go_wp2_with (fail)
  all_goals go_ret
  refine ⟨_, rfl, ⟨by simp, fun i hi => ?_, fun i => ?_⟩, by simp, by (repeat (first | (with_reducible exact Below.refl _ _) | (with_reducible assumption) | (with_reducible refine Near.up _ ?_) | (with_reducible refine Below.drew ?_) | (with_reducible refine below_alloc_on ?_ _) | (with_reducible refine below_set_on ?_ (by first | (simp; done) | (simp; omega) | omega) _)))⟩
  · match i, hi with
    | 0, _ => first | rfl | simp
    | 1, _ => first | rfl | simp
  · exact (box_at _ _ _ (by simp)).2.2 i
end Go.Proofs.Ytmemhlhjkpijpaa
