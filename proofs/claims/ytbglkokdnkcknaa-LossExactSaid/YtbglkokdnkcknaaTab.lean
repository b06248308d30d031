/- A slice of rows, each of so many truths, or of so many numbers of one kind: read as a table. -/
import Derived.Test.YtbglkokdnkcknaaLeaf
namespace Go.Proofs.Ytbglkokdnkcknaa
open Go.ChangeShapes Go.WideShapes Go.ChangeAt Go.RowKit Go.Deep
set_option linter.unusedVariables false

/-- n rows of m cells, cell j of row i being f (T i j). -/
def Tab {α : Type} (f : α → Value) (m : Nat) (w : World) (A : Option Addr) (n : Nat) (T : Nat → Nat → α) : Prop :=
  0 < n → ∃ b off, A = some ⟨b, off, Option.none⟩ ∧ b < w.heap.size ∧ ∀ i, i < n → ∀ j, j < m → w.cell? ⟨b, off + (i * m + j), Option.none⟩ = some (f (T i j))
theorem Tab.below {α : Type} {f : α → Value} {m : Nat} {w w' : World} {A : Option Addr} {n : Nat} {T : Nat → Nat → α} (h : Tab f m w A n T) (hb : Below w.heap.size w w') : Tab f m w' A n T := fun h0 => by
  obtain ⟨b, off, rfl, hl, hc⟩ := h h0
  exact ⟨b, off, rfl, Nat.lt_of_lt_of_le hl hb.size, fun i hi j hj => (hb.cell (p := ⟨b, off + (i * m + j), Option.none⟩) hl).trans (hc i hi j hj)⟩
theorem Tab.at_ {α : Type} {f : α → Value} {m : Nat} {w : World} {A : Option Addr} {n : Nat} {T : Nat → Nat → α} (h : Tab f m w A n T) {i : Nat} (hi : i < n) :
    ∃ b off, A = some ⟨b, off, Option.none⟩ ∧ b < w.heap.size ∧ ∀ j, j < m → w.cell? ⟨b, off + (i * m + j), Option.none⟩ = some (f (T i j)) := by
  obtain ⟨b, off, rfl, hl, hc⟩ := h (by omega)
  exact ⟨b, off, rfl, hl, hc i hi⟩
theorem tab_of {α : Type} {f : α → Value} {l : TypeDesc} {m : Nat} {w : World} {A : Option Addr} {n : Nat} {rs : List (List Value)} (R : α → Prop) [Inhabited α] (hl : ∀ v, leafIs l v → ∃ a, v = f a ∧ R a)
    (h : Rows (List.replicate m l) w A n rs) : ∃ T : Nat → Nat → α, Tab f m w A n T ∧ ∀ i, i < n → ∀ j, j < m → R (T i j) := by
  have hc : ∀ i j, ∃ a : α, i < n → j < m → (rs.getD i []).getD j undef = f a ∧ R a := fun i j => by
    by_cases h1 : i < n
    · by_cases h2 : j < m
      · obtain ⟨a, e, r⟩ := hl _ ((h.2.1 i h1).2 j l (by simp [h2]))
        exact ⟨a, fun _ _ => ⟨e, r⟩⟩
      · exact ⟨default, fun _ g => absurd g h2⟩
    · exact ⟨default, fun g => absurd g h1⟩
  obtain ⟨T, hT⟩ : ∃ T : Nat → Nat → α, ∀ i j, i < n → j < m → (rs.getD i []).getD j undef = f (T i j) ∧ R (T i j) :=
    ⟨fun i j => Classical.choose (hc i j), fun i j => Classical.choose_spec (hc i j)⟩
  refine ⟨T, fun h0 => ?_, fun i hi j hj => (hT i j hi hj).2⟩
  obtain ⟨b, off, rfl, hlt, hcell⟩ := h.2.2 h0
  refine ⟨b, off, rfl, hlt, fun i hi j hj => ?_⟩
  have := hcell i hi j (by simpa using hj)
  rw [List.length_replicate] at this
  rw [this, (hT i j hi hj).1]
theorem tab_bools {m : Nat} {w : World} {A : Option Addr} {n : Nat} {rs : List (List Value)} (h : Rows (List.replicate m .bool) w A n rs) : ∃ T : Nat → Nat → Bool, Tab Value.bool m w A n T := by
  obtain ⟨T, hT, _⟩ := tab_of (f := Value.bool) (fun _ => True) (fun v h => by obtain ⟨b, e⟩ : leafIs .bool v := h; exact ⟨b, e, trivial⟩) h
  exact ⟨T, hT⟩
theorem tab_ints {k : IntKind} {m : Nat} {w : World} {A : Option Addr} {n : Nat} {rs : List (List Value)} (h : Rows (List.replicate m (.int k)) w A n rs) : ∃ T : Nat → Nat → Int, Tab (Value.int k) m w A n T ∧ ∀ i, i < n → ∀ j, j < m → (Lit.int k (T i j)).wf = true :=
  tab_of (f := Value.int k) (l := .int k) (fun a => (Lit.int k a).wf = true) (fun v h => h) h

/-- For how many ticks up to the last of i it has been so. -/
def runN (f : Nat → Bool) : Nat → Nat
  | 0 => 0
  | i + 1 => if f i = true then runN f i + 1 else 0
theorem run_le (f : Nat → Bool) (i : Nat) : runN f i ≤ i := by
  induction i with
  | zero => exact Nat.le_refl _
  | succ i ih => unfold runN; split <;> omega
theorem run_yes {f : Nat → Bool} {i : Nat} (h : f i = true) : runN f (i + 1) = runN f i + 1 := by rw [runN, if_pos h]
theorem run_no {f : Nat → Bool} {i : Nat} (h : f i = false) : runN f (i + 1) = 0 := by rw [runN, if_neg (by rw [h]; simp)]
/-- All ticks within are so. -/
theorem run_in {f : Nat → Bool} {i q : Nat} (h : q < runN f (i + 1)) : q ≤ i ∧ f (i - q) = true := by
  induction i generalizing q with
  | zero =>
    cases hf : f 0
    · rw [run_no hf] at h; omega
    · rw [run_yes hf] at h
      have : runN f 0 = 0 := rfl
      obtain rfl : q = 0 := by omega
      exact ⟨Nat.le_refl _, hf⟩
  | succ i ih =>
    cases hf : f (i + 1)
    · rw [run_no hf] at h; omega
    · rw [run_yes hf] at h
      match q with
      | 0 => exact ⟨Nat.zero_le _, hf⟩
      | q + 1 =>
        obtain ⟨h1, h2⟩ := ih (q := q) (by omega)
        exact ⟨by omega, by rw [show i + 1 - (q + 1) = i - q by omega]; exact h2⟩
/-- The one ahead of them isn't, if there is one. -/
theorem run_end {f : Nat → Bool} {i : Nat} (h : runN f (i + 1) ≤ i) : f (i - runN f (i + 1)) = false := by
  induction i with
  | zero =>
    cases hf : f 0
    · rw [run_no hf]; exact hf
    · rw [run_yes hf] at h; omega
  | succ i ih =>
    cases hf : f (i + 1)
    · rw [run_no hf]; exact hf
    · rw [run_yes hf] at h ⊢
      rw [show i + 1 - (runN f (i + 1) + 1) = i - runN f (i + 1) by omega]
      exact ih (by omega)
end Go.Proofs.Ytbglkokdnkcknaa
