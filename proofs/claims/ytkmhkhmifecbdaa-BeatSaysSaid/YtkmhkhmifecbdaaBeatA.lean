/- A beat as an argument, opened: whether there was a drop, the last one, and the list of times. -/
import Derived.Test.YtkmhkhmifecbdaaLaw24
import Derived.Lib.SmallJoins
namespace Go.Proofs.Ytkmhkhmifecbdaa
set_option maxRecDepth 100000
open Go.ChangeShapes Go.WideShapes Go.ChangeAt Go.RowKit Go.Deep Go.Joins
set_option linter.unusedVariables false
set_option linter.unusedSimpArgs false

/-- A cell that reads as a list of numbers. -/
theorem ints_of_trod {H : Type} {enc : TypeId × Value → H} {P : Program} {W : World} {t e : TypeId} {fuel : Nat} {v : Value} {y : DataW H × List MemPlace}
    (ht : P.underlying t = some (.slice e)) (he : P.underlying e = some (.int .i64)) (hc : P.cellsOf e = 1) (hb : P.bytesOf e = 8)
    (hf : DataW.trod enc P W 0 (fun _ => true) true fuel t [v] = some y) (hlt : ∀ x ∈ y.2, x.block < W.heap.size)
    (hw : ∀ n ∈ y.1.weights P t, n ≤ reachBytes) :
    ∃ A n c xs, v = .slice A n c ∧ Ints W A n xs ∧ n ≤ c ∧ n * 8 ≤ 140737488351232 ∧ ∀ x ∈ xs, (Lit.int .i64 x).wf = true := by
  rcases open_ints ht he hc hf with ⟨hcs, hx⟩ | ⟨a, len, cap, zs, hcs, _, hl, hm, hz, hx, hcell, hwz⟩
  · simp at hcs
    subst hcs
    exact ⟨none, 0, 0, [], rfl, ⟨rfl, fun h => absurd h (by omega)⟩, by omega, by omega, by simp⟩
  · simp at hcs
    subst hcs
    subst hx
    simp only [if_true] at hz
    have hwt : ((zs.take len).length + (zs.drop len).length) * 8 ≤ 140737488351232 := by
      have := hw (((zs.take len).length + (zs.drop len).length) * 8) (by simp [DataW.weights, ht, hb, lits])
      simpa [reachBytes] using this
    refine ⟨some a, len, cap, zs.take len, rfl, ⟨by simp; omega, fun hn => ?_⟩, hl, by simp at hwt; omega, fun x hx => hwz x (List.mem_of_mem_take hx)⟩
    obtain ⟨b, off, rfl, hc2⟩ := ints_at hcell (by omega)
    refine ⟨b, off, rfl, hlt (.cell b off) ?_, fun i hi => ?_⟩
    · exact MemPlace.mem_row.2 ⟨0, by omega, by simp⟩
    · rw [hc2 i (by omega)]
      simp [List.getD, hi]

theorem open_beat {H : Type} {enc : TypeId × Value → H} {W : World} {base : Nat} {v : Value} {d : DataW H} {p : List MemPlace}
    (hval : Value.okWide Try.prog W .any base 24 v) (h : DataW.Trod enc Try.prog W 0 (fun _ => true) true 24 v d p) (hlt : ∀ x ∈ p, x.block < W.heap.size)
    (hw : ∀ n ∈ d.weights Try.prog 24, n ≤ reachBytes) :
    ∃ (q : Bool) (l : Int) (A : Option Addr) (n c : Nat) (xs : List Int), v = .agg #[.bool q, .int .i64 l, .slice A n c] ∧ (Lit.int .i64 l).wf = true ∧ Ints W A n xs ∧ n ≤ c ∧ n * 8 ≤ 140737488351232 ∧ ∀ x ∈ xs, (Lit.int .i64 x).wf = true := by
  obtain ⟨v0, v1, v2, y0, y1, y2, fuel, rfl, rfl, rfl, t0, t1, t2⟩ := open_agg3 Try.underlying24 (by kernel_rfl) (by kernel_rfl) hval h
  obtain ⟨q, rfl⟩ : ∃ q, v0 = .bool q := by
    have := leaves_of (enc := enc) 1 4 [.bool] fuel [v0] _ (by kernel_rfl) t0
    obtain ⟨b, hb⟩ := this.2 0 _ rfl
    exact ⟨b, hb⟩
  obtain ⟨l, rfl, wl⟩ : ∃ l, v1 = .int .i64 l ∧ (Lit.int .i64 l).wf = true := by
    have := leaves_of (enc := enc) 1 3 [.int .i64] fuel [v1] _ (by kernel_rfl) t1
    exact this.2 0 _ rfl
  obtain ⟨A, n, c, xs, rfl, h1, h2, h3, h4⟩ := ints_of_trod (t := 22) Try.underlying22 Try.underlying3 (by kernel_rfl) (by kernel_rfl) t2 (fun x hx => hlt x (by simp [hx])) (fun n hn => hw n (by simp [DataW.weights, DataW.weightsEach, Try.underlying24, hn]))
  exact ⟨q, l, A, n, c, xs, rfl, wl, h1, h2, h3, h4⟩
end Go.Proofs.Ytkmhkhmifecbdaa
