/- An array argument of numbers, opened: its elements, one by one. -/
import Derived.Test.YtmemhlhjkpijpaaRows
import Derived.WalkKit
import Derived.ProofKit
import Derived.OpenShut
import Derived.WalkLawsBesides
namespace Go.Proofs.Ytmemhlhjkpijpaa
set_option maxRecDepth 100000
open Go.ChangeShapes Go.WideShapes Go.ChangeAt Go.RowKit

section
variable {H : Type} {enc : TypeId × Value → H} {P : Program} {W : World} {base : Nat} {sp : Nat → Bool} {held : Bool}

theorem mapM_each {m : Nat} {e : TypeId} {cs : List Value} (R : Value → Prop) (hR : ∀ c x, DataW.trod enc P W base sp held m e [c] = some x → R c) :
    ∀ (L : List Nat) (xs : List (DataW H × List MemPlace)), (∀ i ∈ L, i < cs.length) → L.mapM (fun i => DataW.trod enc P W base sp held m e ((cs.drop (i * 1)).take 1)) = some xs → ∀ i ∈ L, R (cs.getD i undef)
  | [], xs, _, h => by simp
  | i :: L, xs, hl, h => by
    rw [List.mapM_cons] at h
    simp only [bind, Option.bind_eq_some_iff, pure, Option.some.injEq] at h
    obtain ⟨y, hy, ys, hys, rfl⟩ := h
    have hi := hl i (by simp)
    have h1 : (cs.drop (i * 1)).take 1 = [cs.getD i undef] := by
      have h0 : cs.getD i undef = cs[i] := by simp [List.getD, List.getElem?_eq_getElem hi]
      rw [Nat.mul_one, List.drop_eq_getElem_cons hi, List.take_succ_cons, List.take_zero, h0]
    rw [h1] at hy
    intro j hj
    rcases List.mem_cons.1 hj with rfl | hj
    · exact hR _ _ hy
    · exact mapM_each R hR L ys (fun k hk => hl k (by simp [hk])) hys j hj

/-- Elements of one cell each. -/
theorem open_cells {t e : TypeId} {n : Nat} {v : Value} {d : DataW H} {ps : List MemPlace} {r : Reach} {b0 : Nat} (R : Value → Prop)
    (ht : P.underlying t = some (.array n e)) (hc : P.cellsOf e = 1) (hs : P.cellsOf t = n) (hval : Value.okWide P W r b0 t v) (hd : DataW.Trod enc P W base sp held t v d ps)
    (hR : ∀ m c x, DataW.trod enc P W base sp held m e [c] = some x → R c) :
    ∃ xs : List Value, v = .agg xs.toArray ∧ xs.length = n ∧ ∀ c ∈ xs, R c := by
  simp only [Value.okWide, ht] at hval
  obtain ⟨cs, rfl, h2, _⟩ := hval
  refine ⟨cs.toList, by simp, by simpa [hs] using h2, ?_⟩
  obtain ⟨fuel, hf⟩ := hd
  cases fuel with
  | zero => simp [DataW.trod] at hf
  | succ m =>
    unfold DataW.trod at hf
    simp only [ht, Value.cells, hc] at hf
    have hl : cs.toList.length = P.cellsOf t := by simpa using h2
    rw [if_pos hl] at hf
    simp only [Option.map_eq_some_iff] at hf
    obtain ⟨ys, hy, _⟩ := hf
    have hm := mapM_each (enc := enc) R (hR m) (List.range n) ys (by intro i hi; rw [hl, hs]; simpa using hi) hy
    intro c hcm
    obtain ⟨i, hi, rfl⟩ := List.getElem_of_mem hcm
    have := hm i (by rw [hl, hs] at hi; simpa using hi)
    simpa [List.getD, List.getElem?_eq_getElem hi] using this

theorem open_int_cells {t e : TypeId} {n : Nat} {k : IntKind} {v : Value} {d : DataW H} {ps : List MemPlace} {r : Reach} {b0 : Nat}
    (ht : P.underlying t = some (.array n e)) (he : P.underlying e = some (.int k)) (hc : P.cellsOf e = 1) (hs : P.cellsOf t = n) (hval : Value.okWide P W r b0 t v) (hd : DataW.Trod enc P W base sp held t v d ps) :
    ∃ xs : List Int, v = .agg (xs.map (Value.int k)).toArray ∧ xs.length = n ∧ ∀ a ∈ xs, (Lit.int k a).wf = true := by
  obtain ⟨xs, h1, h2, h3⟩ := open_cells (enc := enc) (fun c => ∃ a, c = .int k a ∧ (Lit.int k a).wf = true) ht hc hs hval hd (by
    intro m c x h
    obtain ⟨a, ea, _, wa⟩ := DataW.trod_int he h
    exact ⟨a, by simpa using ea, wa⟩)
  clear hval hd hs ht
  subst h1
  induction xs generalizing n with
  | nil => exact ⟨[], by simp, by simpa using h2, by simp⟩
  | cons c cs ih =>
    obtain ⟨a, rfl, wa⟩ := h3 c (by simp)
    obtain ⟨l, e1, e2, e3⟩ := ih rfl (fun c hc => h3 c (by simp [hc]))
    refine ⟨a :: l, ?_, by simpa using congrArg (· + 1) e2 |>.trans (by simpa using h2), ?_⟩
    · simp only [Value.agg.injEq] at e1 ⊢
      have : cs = l.map (Value.int k) := by simpa using congrArg Array.toList e1
      rw [this]; rfl
    · intro b hb
      rcases List.mem_cons.1 hb with rfl | hb
      · exact wa
      · exact e3 b hb
theorem open_float_cells {t e : TypeId} {n : Nat} {k : FloatKind} {v : Value} {d : DataW H} {ps : List MemPlace} {r : Reach} {b0 : Nat}
    (ht : P.underlying t = some (.array n e)) (he : P.underlying e = some (.float k)) (hc : P.cellsOf e = 1) (hs : P.cellsOf t = n) (hval : Value.okWide P W r b0 t v) (hd : DataW.Trod enc P W base sp held t v d ps) :
    ∃ xs : List Nat, v = .agg (xs.map (Value.float k)).toArray ∧ xs.length = n ∧ ∀ a ∈ xs, (Lit.float k a).wf = true := by
  obtain ⟨xs, h1, h2, h3⟩ := open_cells (enc := enc) (fun c => ∃ a, c = .float k a ∧ (Lit.float k a).wf = true) ht hc hs hval hd (by
    intro m c x h
    cases m with
    | zero => simp [DataW.trod] at h
    | succ m =>
      unfold DataW.trod at h
      simp only [he] at h
      cases c with
      | float k' b =>
        by_cases hk : k' = k ∧ (Lit.float k b).wf = true
        · exact ⟨b, by rw [hk.1], hk.2⟩
        · simp [hk] at h
      | _ => simp at h)
  clear hval hd hs ht
  subst h1
  induction xs generalizing n with
  | nil => exact ⟨[], by simp, by simpa using h2, by simp⟩
  | cons c cs ih =>
    obtain ⟨a, rfl, wa⟩ := h3 c (by simp)
    obtain ⟨l, e1, e2, e3⟩ := ih rfl (fun c hc => h3 c (by simp [hc]))
    refine ⟨a :: l, ?_, by simpa using congrArg (· + 1) e2 |>.trans (by simpa using h2), ?_⟩
    · simp only [Value.agg.injEq] at e1 ⊢
      have : cs = l.map (Value.float k) := by simpa using congrArg Array.toList e1
      rw [this]; rfl
    · intro b hb
      rcases List.mem_cons.1 hb with rfl | hb
      · exact wa
      · exact e3 b hb
end
end Go.Proofs.Ytmemhlhjkpijpaa
