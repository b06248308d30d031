/- What ring and the document read off a list: the one that stands back, the greatest one, the sum; are two lists the same? -/
import Derived.Test.YthibaehiponfnaaRing
import Derived.WalkLawsBesides
namespace Go.Proofs.Ythibaehiponfnaa
set_option maxRecDepth 100000
open Go.RowKit
set_option linter.unusedVariables false
set_option linter.unusedSimpArgs false

def backB (n : Nat) (k : Int) : Bool := decide (0 ≤ k ∧ k < (n : Int))
def backV (xs : List Int) (k : Int) : Int := if backB xs.length k = true then xs.getD (xs.length - 1 - k.toNat) 0 else 0
theorem Ints.at_ {w : World} {A : Option Addr} {n : Nat} {xs : List Int} (h : Ints w A n xs) {k : Nat} (hk : k < n) : ∃ b off, A = some ⟨b, off, none⟩ ∧ b < w.heap.size ∧ w.cell? ⟨b, off + k, none⟩ = some (.int .i64 (xs.getD k 0)) := by
  obtain ⟨b, off, e, hb, hc⟩ := h.2 (by omega)
  exact ⟨b, off, e, hb, hc k hk⟩

/-- The greatest of a and the numbers behind it, one by one. -/
def mx (a : Int) (l : List Int) : Int := l.foldl (fun m x => if m < x then x else m) a
theorem mx_step (a : Int) (xs : List Int) (k : Nat) (hk : k < xs.length) : mx a (xs.take (k + 1)) = if mx a (xs.take k) < xs.getD k 0 then xs.getD k 0 else mx a (xs.take k) := by
  unfold mx
  rw [List.take_add_one, List.foldl_append]
  simp [List.getD, List.getElem?_eq_getElem hk]
def mostV (xs : List Int) : Int := mx (xs.getD 0 0) xs
def mostB (n : Nat) : Bool := decide (0 < n)

def eqL (xs ys : List Int) : Bool := decide (xs = ys)
theorem eqL_refl (xs : List Int) : eqL xs xs = true := by simp [eqL]
theorem take_eq_step {xs ys : List Int} {k : Nat} (h : xs.take k = ys.take k) (hx : k < xs.length) (hy : k < ys.length) (e : xs.getD k 0 = ys.getD k 0) : xs.take (k + 1) = ys.take (k + 1) := by
  rw [List.take_add_one, List.take_add_one, h]
  simp only [List.getD, List.getElem?_eq_getElem hx, List.getElem?_eq_getElem hy, Option.getD_some] at e
  simp [List.getElem?_eq_getElem hx, List.getElem?_eq_getElem hy, e]

end Go.Proofs.Ythibaehiponfnaa
