/- Contracts of package ring: lists of numbers that keep what was last. -/
import Derived.Test.YtmemhlhjkpijpaaSatSum
import Derived.Test.YtmemhlhjkpijpaaAt
import Derived.Test.YtmemhlhjkpijpaaApp
import Derived.ArgAppend
import Derived.Laws.CopyOwn
namespace Go.Proofs.Ytmemhlhjkpijpaa
set_option maxRecDepth 100000
open Go.RowKit
set_option linter.unusedVariables false
set_option linter.unusedSimpArgs false

/-- How many of n the last k are. -/
def cntV (n : Nat) (k : Int) : Nat := if k < 0 then 0 else if (n : Int) < k then n else k.toNat
theorem cntV_le (n : Nat) (k : Int) : cntV n k ≤ n := by unfold cntV; split <;> (try split) <;> omega
theorem cntV_with (n : Nat) (k : Int) : withV k 0 n = (cntV n k : Int) := by unfold cntV withV; split <;> (try split) <;> (try split) <;> omega
def lastL (xs : List Int) (k : Int) : List Int := xs.drop (xs.length - cntV xs.length k)
theorem lastL_len (xs : List Int) (k : Int) : (lastL xs k).length = cntV xs.length k := by
  unfold lastL; have := cntV_le xs.length k; simp; omega

/-- Where what is left of a list begins that is cut off ahead of the last m ones. -/
def tailA (A : Option Addr) (r m : Nat) : Option Addr := if m = 0 then A else A.map (·.add r)

/-- An answer that is a new list of numbers; nothing that was there has turned. -/
def NewInts (w : World) (ys : List Int) (e : Ending) (w' : World) : Prop :=
  ∃ B d, e = .returned (.slice B ys.length d) ∧ ys.length ≤ d ∧ Ints w' B ys.length ys ∧ Below w.heap.size w w'
theorem NewInts.of_own {w w' : World} {base e n : Nat} {v : Value} {ys : List Int} (h : w'.ownsRow base e 1 v n (ys.map (Value.int .i64))) (hn : ys.length = n) (hb : Below w.heap.size w w') : NewInts w ys (.returned v) w' := by
  obtain ⟨B, d, rfl, hd⟩ := own_form h
  subst hn
  exact ⟨B, d, rfl, hd, Ints.of_own h rfl, hb⟩
/-- The same, and the list's room is the call's own. -/
def OwnInts (w : World) (ys : List Int) (e : Ending) (w' : World) : Prop :=
  ∃ v, e = .returned v ∧ w'.ownsRow w.heap.size 3 1 v ys.length (ys.map (Value.int .i64)) ∧ Below w.heap.size w w'
theorem OwnInts.new {w w' : World} {e : Ending} {ys : List Int} (h : OwnInts w ys e w') : NewInts w ys e w' := by
  obtain ⟨v, rfl, ho, hb⟩ := h; exact NewInts.of_own ho rfl hb
theorem own_base {w : World} {base base' e size n : Nat} {v : Value} {cs : List Value} (h : w.ownsRow base e size v n cs) (hb : base' ≤ base) : w.ownsRow base' e size v n cs := by
  refine ⟨h.1, ?_⟩
  rcases h.2 with h2 | ⟨g, cap, cur, hv, hg, r⟩
  · exact .inl h2
  · exact .inr ⟨g, cap, cur, hv, Nat.le_trans hb hg, r⟩
theorem OwnInts.from {w w1 w' : World} {e : Ending} {ys : List Int} (h : OwnInts w1 ys e w') (hb : Below w.heap.size w w1) : OwnInts w ys e w' := by
  obtain ⟨v, he, ho, hb1⟩ := h
  exact ⟨v, he, own_base ho hb.size, Below.trans hb (hb1.mono hb.size)⟩
/-- A row of a call's own stays where nothing below the heap's size turns. -/
theorem own_below {w w' : World} {base e size n : Nat} {v : Value} {cs : List Value} (h : w.ownsRow base e size v n cs) (hb : Below w.heap.size w w') : w'.ownsRow base e size v n cs := by
  refine ⟨h.1, ?_⟩
  rcases h.2 with h2 | ⟨g, cap, cur, hv, hg, hh, r⟩
  · exact .inl h2
  · exact .inr ⟨g, cap, cur, hv, hg, by rw [hb.block g (Array.getElem?_eq_some_iff.1 hh).1]; exact hh, r⟩
def roomN (most : Int) : Nat := cntV 512 most
theorem roomN_le (most : Int) : roomN most ≤ 512 := cntV_le _ _
def pushL (xs : List Int) (most x : Int) : List Int := if roomN most = 0 then [] else lastL xs ((roomN most : Int) - 1) ++ [x]

theorem pushL_len (xs : List Int) (most x : Int) : (pushL xs most x).length ≤ 512 := by
  have := roomN_le most
  unfold pushL
  split
  · simp
  · rw [List.length_append, lastL_len]
    unfold cntV
    simp
    split <;> (try split) <;> omega

theorem ints_tail {w : World} {A : Option Addr} {r m : Nat} {xs : List Int} (h : Ints w A (r + m) xs) : Ints w (tailA A r m) m (xs.drop r) := by
  refine ⟨by have := h.1; simp; omega, fun hm => ?_⟩
  obtain ⟨b, off, rfl, hlt, hc⟩ := h.2 (by omega)
  refine ⟨b, off + r, by unfold tailA; rw [if_neg (by omega)]; simp [Addr.add_lit], hlt, fun i hi => ?_⟩
  rw [Nat.add_assoc, hc (r + i) (by omega)]
  simp [List.getD]

end Go.Proofs.Ytmemhlhjkpijpaa
