/- A region that draws its order: its head only reads or calls what turns nothing old, and ends in one operation that all others wait for; then two operations that look at no memory, in either order; then the rest, forced. (A call of two results whose arguments draw their order: 'c, b = f(xs[i], ..)'.) -/
import Derived.Test.YtmocppghmdeahaaGreatTail
namespace Go.Proofs.YtmocppghmdeahaaGreat
set_option maxRecDepth 100000
open Go.RowKit
set_option linter.unusedVariables false
set_option linter.unusedSimpArgs false

section
variable {P : Program} {ops : Array Oper} {md : Region.Mode} {C : World → Prop}

theorem fan_first {n i : Nat} {oi : Oper} {v : Value} {L : Array Bool → Act → Prop} (hi : ops[i]? = some oi) (hsel : ∀ (j : Nat) (o : Oper) cs b, ops[j]? = some o → o.op ≠ .select cs b)
    (hwait : ∀ listed, HeadInv md ops n listed → ∀ k, k < n → listed.getD k true = false → ∀ t, n ≤ t → t ∉ Region.ready md ops listed) (hin : i < n)
    (hdone : ∀ listed a, L listed a → ∀ j ∈ Region.ready md ops listed, n ≤ j) :
    ∀ (f : Nat) (listed : Array Bool) (a : Act), HeadInv md ops n listed →
      (∀ j oj, ops[j]? = some oj → j ≠ i → listed.getD j true = false → (∀ e ∈ oj.after, Region.binds md e = true → e.on ≠ i) → oi.apart ops oj = true) →
      i ∈ Region.ready md ops listed → YieldsIn P ops C oi v a →
      headQ P md ops C n L f (listed.setIfInBounds i true) (a.put oi.dst v) → headQ P md ops C n L (f + 1) listed a
  | f, listed, a, inv, hfree, hr, hy, H => by
    have hun := (mem_ready.1 hr).1
    refine ⟨List.ne_nil_of_mem hr, fun j hj => ?_⟩
    have hjn : j < n := Nat.lt_of_not_le fun h => hwait listed inv i hin hun j h hj
    refine ⟨hjn, ?_⟩
    by_cases hji : j = i
    · subst hji
      exact hy.qOp hi H
    · cases f with
      | zero =>
        have := hdone _ _ H j (ready_mono hj hji)
        omega
      | succ f =>
        have h1 := (H.2 j (ready_mono hj hji)).2
        obtain ⟨hjun, oj, hoj, hall⟩ := mem_ready.1 hj
        have hnot : ∀ e ∈ oj.after, Region.binds md e = true → e.on ≠ i := fun e he hb heq => by
          have h2 := hall e he hb
          rw [heq, getD_both hun] at h2
          cases h2
        have h2 := qOp_put hoj (hfree j oj hoj hji hjun hnot) (fun cs b => hsel i oi cs b hi) (fun cs b => hsel j oj cs b hoj) hy h1
        refine qOp_mono (fun a' h3 => fan_first hi hsel hwait hin hdone f _ a' (inv.set hj hjn) (fun k ok hk hki hu hno => hfree k ok hk hki ?_ hno) (ready_mono hr (Ne.symm hji)) h3.1 ?_) h2
        · by_cases hjk : j = k
          · exact hjk ▸ hjun
          · rwa [getD_set_ne true hjk] at hu
        · rw [Array.setIfInBounds_comm _ _ hji]
          exact h3.2

def lexTo (md : Region.Mode) (ops : Array Oper) (E : Array Bool → Bool) : Nat → Nat → Array Bool → Bool
  | 0, _, listed => E listed
  | f + 1, k, listed => (Region.ready md ops listed).contains k && Region.free md ops listed k && lexTo md ops E f (k + 1) (listed.setIfInBounds k true)

theorem fan_lex {n : Nat} {E : Array Bool → Bool} {Lq : Act → Prop} (hsel : Region.noSelect ops = true)
    (hwait : ∀ listed, HeadInv md ops n listed → ∀ k, k < n → listed.getD k true = false → ∀ t, n ≤ t → t ∉ Region.ready md ops listed)
    (hE : ∀ listed, E listed = true → ∀ j ∈ Region.ready md ops listed, n ≤ j) :
    ∀ (l : List Oper) (k : Nat) (listed : Array Bool) (a : Act), (∀ j, j < l.length → l[j]? = ops[k + j]?) → k + l.length = n → HeadInv md ops n listed →
    lexTo md ops E l.length k listed = true → wpQuiet P ops C Lq l a → headQ P md ops C n (fun listed' a' => E listed' = true ∧ Lq a') l.length listed a
  | [], k, listed, a, _, hk, _, hB, h => ⟨hB, h⟩
  | o :: l, k, listed, a, hl, hk, inv, hB, h => by
    have h0 : ops[k]? = some o := (hl 0 (by simp)).symm
    simp only [List.length_cons, lexTo, Bool.and_eq_true] at hB
    simp only [List.length_cons] at hk
    obtain ⟨⟨hr, hf⟩, hB'⟩ := hB
    have hkn : k < n := by omega
    have hr' : k ∈ Region.ready md ops listed := by simpa using hr
    have hst : qOp P ops C k (wpQuiet P ops C Lq l) a := by
      unfold qOp
      simp only [h0]
      exact h
    obtain ⟨v, hy, hK⟩ := yieldsIn_of_qOp h0 hst
    refine fan_first h0 (Region.noSelect_spec hsel) hwait hkn (fun listed' a' hL => hE _ hL.1) l.length listed a inv (Region.free_spec h0 hf) hr' hy ?_
    exact fan_lex hsel hwait hE l (k + 1) _ _ (fun j hj => by have := hl (j + 1) (by simp; omega); simpa [Nat.add_assoc, Nat.add_comm 1 j] using this) (by omega) (inv.set hr' hkn) hB' hK

/-- All of the head is ahead of its last operation, and all the others wait for that one. -/
def fanB (md : Region.Mode) (ops : Array Oper) (m : Nat) : Bool :=
  ((List.range m).all fun i => (List.range (m + 1)).any fun j => decide (i < j) && Region.waitsFor md ops j i) &&
  ((List.range ops.size).all fun t => decide (t ≤ m) || Region.waitsFor md ops t m)
theorem fan_waits {m : Nat} (hB : fanB md ops m = true) : ∀ listed, HeadInv md ops (m + 1) listed → ∀ k, k < m + 1 → listed.getD k true = false → ∀ t, m + 1 ≤ t → t ∉ Region.ready md ops listed := by
  intro listed inv k hk hun t ht hr
  simp only [fanB, Bool.and_eq_true] at hB
  obtain ⟨hs, hc⟩ := hB
  have hlast : ∀ (d i : Nat), m - i = d → i ≤ m → listed.getD i true = false → listed.getD m true = false := by
    intro d
    induction d using Nat.strongRecOn with
    | _ d ih =>
      intro i hd hi hu
      by_cases him : i = m
      · exact him ▸ hu
      · have h1 := List.all_eq_true.1 hs i (List.mem_range.2 (by omega))
        obtain ⟨j, hj, hj2⟩ := List.any_eq_true.1 h1
        simp only [Bool.and_eq_true, decide_eq_true_eq] at hj2
        have hjm : j ≤ m := by have := List.mem_range.1 hj; omega
        obtain ⟨oj, hoj, e, he, hb, hon⟩ := Region.waitsFor_spec hj2.2
        have hjs : j < listed.size := by rw [inv.size]; exact (Array.getElem?_eq_some_iff.1 hoj).1
        cases hl : listed.getD j false with
        | true =>
          have h2 := inv.closed j oj hoj hl e he hb
          rw [hon, getD_both hu] at h2
          cases h2
        | false => exact ih (m - j) (by omega) j rfl hjm (getD_in hjs hl)
  have hm := hlast _ k rfl (by omega) hun
  obtain ⟨_, ot, hot, hall⟩ := mem_ready.1 hr
  have h1 := List.all_eq_true.1 hc t (List.mem_range.2 (Array.getElem?_eq_some_iff.1 hot).1)
  simp only [Bool.or_eq_true, decide_eq_true_eq] at h1
  rcases h1 with h1 | h1
  · omega
  · obtain ⟨o', ho', e, he, hb, hon⟩ := Region.waitsFor_spec h1
    obtain rfl : o' = ot := Option.some.inj (ho'.symm.trans hot)
    have h2 := hall e he hb
    rw [hon, getD_both hm] at h2
    cases h2

/-- Behind the head: two that look at no memory, then the rest, forced. -/
def twoB (md : Region.Mode) (ops : Array Oper) (n : Nat) (listed : Array Bool) : Bool :=
  (Region.ready md ops listed).all (fun j => decide (n ≤ j)) && (Region.ready md ops listed).contains n && Region.free md ops listed n &&
  (Region.ready md ops (listed.setIfInBounds n true)).contains (n + 1) && Region.free md ops (listed.setIfInBounds n true) (n + 1) &&
  Region.seqB md ops (ops.size - n - 2) (n + 2) ((listed.setIfInBounds n true).setIfInBounds (n + 1) true)
def fanTwoB (md : Region.Mode) (ops : Array Oper) (m : Nat) : Bool :=
  Region.noSelect ops && decide (m + 2 < ops.size) && fanB md ops m && lexTo md ops (twoB md ops (m + 1)) (m + 1) 0 (Array.replicate ops.size false)

theorem wp_region_fan {id : Nat} {Q : Exit → Act → World → Prop} {a : Act} {w : World} {l : List Oper} (m : Nat) (o1 o2 : Oper) (h1 : l.toArray[m + 1]? = some o1) (h2 : l.toArray[m + 2]? = some o2)
    (hm : P.follows .mixedOrders = true) (hB : fanTwoB .any l.toArray m = true) (hC : C { w with drawn := w.drawn + 1 }) (hQ : ∀ (v : Value) c a w, Q (.panic c) (a.put o1.dst v) w → Q (.panic c) a w) (hQ2 : ∀ (v : Value) c a w, Q (.panic c) (a.put o2.dst v) w → Q (.panic c) a w)
    (h : wpQuiet P l.toArray C (fun a' => ∃ v1 v2, Yields P l.toArray o1 v1 a' ∧ Yields P l.toArray o2 v2 (a'.put o1.dst v1) ∧ ∀ w', C w' → wpList P l.toArray Q (l.drop (m + 3)) ((a'.put o1.dst v1).put o2.dst v2) w') (l.take (m + 1)) a) :
    (Code.region id l.toArray true).wp P Q a w := by
  simp only [fanTwoB, Bool.and_eq_true, decide_eq_true_eq] at hB
  obtain ⟨⟨⟨hsel, hn⟩, hfan⟩, hlex⟩ := hB
  have hn' : m + 2 < l.length := by simpa using hn
  have htl : (l.take (m + 1)).length = m + 1 := by simp; omega
  have inv0 : HeadInv .any l.toArray (m + 1) (Array.replicate l.toArray.size false) :=
    ⟨by simp, fun j oj _ hl => (by rw [getD_replicate_false] at hl; cases hl), fun t _ ht => getD_in (by simpa using ht) (getD_replicate_false _ _)⟩
  have H := fan_lex (P := P) (C := C) (md := .any) (E := twoB .any l.toArray (m + 1)) hsel (fan_waits hfan) (fun listed hE j hj => by
    simp only [twoB, Bool.and_eq_true] at hE
    have := List.all_eq_true.1 hE.1.1.1.1.1 j hj
    simpa using this) (l.take (m + 1)) 0 _ a (fun j hj => by
      rw [htl] at hj
      simp [hj]) (by simpa using htl) inv0 (by rw [htl]; exact hlex) h
  refine wp_region_any hm ?_
  have K := any_of_headQ (Q' := Q) (g := l.toArray.size - (m + 1)) (fun listed a' w' hw hL => by
    obtain ⟨hE, v1, v2, y1, y2, ht⟩ := hL
    simp only [twoB, Bool.and_eq_true] at hE
    obtain ⟨⟨⟨⟨⟨_, r1⟩, f1⟩, r2⟩, f2⟩, hseq⟩ := hE
    have hlen : (l.drop (m + 3)).length = l.toArray.size - (m + 1) - 2 := by simp; omega
    rw [show l.toArray.size - (m + 1) = (l.toArray.size - (m + 1) - 2 + 1) + 1 by simp; omega]
    refine wpAny_take h1 hsel f1 r1 (fun c a w => hQ _ c a w) y1 ?_
    refine wpAny_take h2 hsel f2 r2 (fun c a w => hQ2 _ c a w) y2 ?_
    have := wpAny_of_seq (md := .any) (Q' := Q) (l.drop (m + 3)) (m + 3) ((listed.setIfInBounds (m + 1) true).setIfInBounds (m + 1 + 1) true) ((a'.put o1.dst v1).put o2.dst v2) w' (fun j => by simp [List.getElem?_drop]) (by rw [hlen]; exact hseq) (ht w' hw)
    rwa [hlen] at this) _ _ _ _ hC H
  rwa [htl, show m + 1 + (l.toArray.size - (m + 1)) = l.toArray.size by simp; omega] at K
end

/-- The class: nothing of w has turned. -/
theorem wp_region_calm_fan {id : Nat} {Q : Exit → Act → World → Prop} {a : Act} {w : World} {l : List Oper} (m : Nat) (o1 o2 : Oper) (h1 : l.toArray[m + 1]? = some o1) (h2 : l.toArray[m + 2]? = some o2)
    (hm : Tryz.prog.follows .mixedOrders = true) (hB : fanTwoB .any l.toArray m = true) (hQ : ∀ (v : Value) c a w, Q (.panic c) (a.put o1.dst v) w → Q (.panic c) a w) (hQ2 : ∀ (v : Value) c a w, Q (.panic c) (a.put o2.dst v) w → Q (.panic c) a w)
    (h : wpQuiet Tryz.prog l.toArray (fun x => ∃ u : Near w, x = u.at_) (fun a' => ∃ v1 v2, Yields Tryz.prog l.toArray o1 v1 a' ∧ Yields Tryz.prog l.toArray o2 v2 (a'.put o1.dst v1) ∧
      ∀ w', (∃ u : Near w, w' = u.at_) → wpList Tryz.prog l.toArray Q (l.drop (m + 3)) ((a'.put o1.dst v1).put o2.dst v2) w') (l.take (m + 1)) a) : (Code.region id l.toArray true).wp Tryz.prog Q a w :=
  wp_region_fan (C := fun x => ∃ u : Near w, x = u.at_) m o1 o2 h1 h2 hm hB ⟨⟨{ w with drawn := w.drawn + 1 }, (below_drewN (Below.refl _ _) 1)⟩, rfl⟩ hQ hQ2 h
end Go.Proofs.YtmocppghmdeahaaGreat
