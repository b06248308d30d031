/- A list of deeds (two u16 and a truth each); twelve truths in a block; bits of a u16. -/
import Derived.Test.YthfipnccjnekfaaLatM
import Derived.Test.YthfipnccjnekfaaLaw34
import Derived.Test.YthfipnccjnekfaaLeaf
namespace Go.Proofs.Ythfipnccjnekfaa
open Go.ChangeShapes Go.WideShapes Go.ChangeAt Go.RowKit
set_option linter.unusedVariables false
set_option linter.unusedSimpArgs false

theorem u16_one (x : Nat) (h : x < 65536) : bits .and .u16 (x : Int) 1 = ((x % 2 : Nat) : Int) := by
  have hx : x &&& 1 = x % 2 := Nat.and_two_pow_sub_one_eq_mod x 1
  show IntKind.u16.wrap ((BitVec.ofInt 16 (x : Int) &&& BitVec.ofInt 16 ((1 : Nat) : Int)).toNat : Int) = _
  rw [BitVec.toNat_and, BitVec.ofInt_natCast, BitVec.ofInt_natCast, BitVec.toNat_ofNat, BitVec.toNat_ofNat, Nat.mod_eq_of_lt (by omega), Nat.mod_eq_of_lt (show 1 < 2 ^ 16 by omega), hx]
  rcases Nat.mod_two_eq_zero_or_one x with h | h <;> rw [h] <;> rfl
theorem sh16_bit (n : Int) (k : Nat) (h0 : 0 ≤ n) (h1 : n ≤ 65535) : bits .and .u16 (n / 2 ^ k) 1 = if bitI n k = true then 1 else 0 := by
  obtain ⟨N, rfl⟩ := Int.eq_ofNat_of_zero_le h0
  rw [bit_nat N k (by omega), show ((N : Int) / 2 ^ k) = ((N / 2 ^ k : Nat) : Int) by simp, u16_one _ (Nat.lt_of_le_of_lt (Nat.div_le_self _ _) (by omega)), Nat.testBit_eq_decide_div_mod_eq]
  rcases Nat.mod_two_eq_zero_or_one (N / 2 ^ k) with h | h <;> rw [h] <;> simp

/-- Deed i of a list: what is raised, what is held, whether it is acknowledged. -/
def Deeds (w : World) (A : Option Addr) (n : Nat) (R H : Nat → Int) (K : Nat → Bool) : Prop :=
  0 < n → ∃ b off, A = some ⟨b, off, Option.none⟩ ∧ b < w.heap.size ∧ ∀ i, i < n →
    w.cell? ⟨b, off + i * 3, Option.none⟩ = some (.int .u16 (R i)) ∧ w.cell? ⟨b, off + i * 3 + 1, Option.none⟩ = some (.int .u16 (H i)) ∧ w.cell? ⟨b, off + i * 3 + 2, Option.none⟩ = some (.bool (K i))
theorem u16_in {x : Int} (h : (Lit.int .u16 x).wf = true) : 0 ≤ x ∧ x ≤ 65535 := by
  simp only [Lit.wf, IntKind.min, IntKind.max, IntKind.signed, IntKind.bits, Bool.and_eq_true] at h
  simpa using h
theorem deeds_of {w : World} {A : Option Addr} {n : Nat} {rs : List (List Value)} (h : Rows [.int .u16, .int .u16, .bool] w A n rs) :
    ∃ (R H : Nat → Int) (K : Nat → Bool), (∀ i, i < n → 0 ≤ R i ∧ R i ≤ 65535 ∧ 0 ≤ H i ∧ H i ≤ 65535) ∧ Deeds w A n R H K := by
  have hc : ∀ i, ∃ (r x : Int) (q : Bool), i < n → (rs.getD i []).getD 0 undef = .int .u16 r ∧ (rs.getD i []).getD 1 undef = .int .u16 x ∧ (rs.getD i []).getD 2 undef = .bool q ∧ 0 ≤ r ∧ r ≤ 65535 ∧ 0 ≤ x ∧ x ≤ 65535 := fun i => by
    by_cases h1 : i < n
    · obtain ⟨r, e0, w0⟩ : leafIs (.int .u16) _ := (h.2.1 i h1).2 0 _ rfl
      obtain ⟨x, e1, w1⟩ : leafIs (.int .u16) _ := (h.2.1 i h1).2 1 _ rfl
      obtain ⟨q, e2⟩ : leafIs .bool _ := (h.2.1 i h1).2 2 _ rfl
      have ⟨a0, a1⟩ := u16_in w0
      have ⟨b0, b1⟩ := u16_in w1
      exact ⟨r, x, q, fun _ => ⟨e0, e1, e2, a0, a1, b0, b1⟩⟩
    · exact ⟨0, 0, false, fun g => absurd g h1⟩
  let R := fun i => Classical.choose (hc i)
  let H := fun i => Classical.choose (Classical.choose_spec (hc i))
  let K := fun i => Classical.choose (Classical.choose_spec (Classical.choose_spec (hc i)))
  have hs : ∀ i, i < n → (rs.getD i []).getD 0 undef = .int .u16 (R i) ∧ (rs.getD i []).getD 1 undef = .int .u16 (H i) ∧ (rs.getD i []).getD 2 undef = .bool (K i) ∧ 0 ≤ R i ∧ R i ≤ 65535 ∧ 0 ≤ H i ∧ H i ≤ 65535 :=
    fun i => Classical.choose_spec (Classical.choose_spec (Classical.choose_spec (hc i)))
  refine ⟨R, H, K, fun i hi => (hs i hi).2.2.2, fun h0 => ?_⟩
  obtain ⟨b, off, rfl, hlt, hcell⟩ := h.2.2 h0
  refine ⟨b, off, rfl, hlt, fun i hi => ?_⟩
  obtain ⟨e0, e1, e2, _⟩ := hs i hi
  exact ⟨(hcell i hi 0 (by simp)).trans (congrArg some e0), (hcell i hi 1 (by simp)).trans (congrArg some e1), (hcell i hi 2 (by simp)).trans (congrArg some e2)⟩

/-- Twelve truths in block g. -/
def Arr12 (f : Nat → Bool) : Array Value := ((List.range 12).map fun i => Value.bool (f i)).toArray
theorem arr_get (f : Nat → Bool) (k : Nat) (h : k < 12) : (Arr12 f)[k]? = some (.bool (f k)) := by
  unfold Arr12; simp [h]
theorem arr_size (f : Nat → Bool) : (Arr12 f).size = 12 := by unfold Arr12; simp
theorem arr_at (f : Nat → Bool) (i : Nat) (h : i < (Arr12 f).size) : (Arr12 f)[i] = .bool (f i) := by
  have := arr_get f i (by rw [arr_size] at h; exact h)
  rw [Array.getElem?_eq_getElem h] at this
  exact Option.some.inj this
theorem arr_set (f : Nat → Bool) (k : Nat) (v : Bool) : (Arr12 f).setIfInBounds k (.bool v) = Arr12 (fun i => if i = k then v else f i) := by
  apply Array.ext
  · simp [arr_size]
  · intro i h1 h2
    simp only [Array.size_setIfInBounds] at h1
    rw [Array.getElem_setIfInBounds h1, arr_at]
    by_cases e : k = i
    · subst e; rw [if_pos rfl, arr_at _ _ h2, if_pos rfl]
    · have : ¬ i = k := fun g => e g.symm
      rw [if_neg e, arr_at _ _ h2, if_neg this]
theorem Box.arr {w : World} {g : Nat} {f : Nat → Bool} (h : Box w g (Arr12 f)) {k : Nat} (hk : k < 12) (v : Bool) : Box (w.setCell ⟨g, k, none⟩ (.bool v)) g (Arr12 fun i => if i = k then v else f i) := by
  have := h.set (i := k) (by rw [arr_size]; exact hk) (.bool v)
  rwa [arr_set] at this
theorem arr_new (w : World) (t : TypeId) : Box (w.alloc (.cells #[.bool false, .bool false, .bool false, .bool false, .bool false, .bool false, .bool false, .bool false, .bool false, .bool false, .bool false, .bool false] t)) w.heap.size (Arr12 fun _ => false) := box_new w _ t
end Go.Proofs.Ythfipnccjnekfaa
