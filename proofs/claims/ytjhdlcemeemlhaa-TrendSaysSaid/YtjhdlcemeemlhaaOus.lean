/- What was told, as it lies. -/
import Derived.Test.YtjhdlcemeemlhaaCount
import Derived.Test.YtjhdlcemeemlhaaLeaf
namespace Go.Proofs.Ytjhdlcemeemlhaa
open Go.RowKit
set_option linter.unusedVariables false
set_option linter.unusedSimpArgs false
set_option maxRecDepth 100000

def ouC (o : Ou) : List Value := [.int .i64 o.tick, .int .i64 o.mode, .int .i64 o.latch, .int .i64 o.notes, .int .i64 o.level, .int .i64 o.buzzer, .int .i64 o.open_, .int .i64 o.pos, .int .i64 o.volume, .bool o.drop, .string o.frame]
def Ous (w : World) (A : Option Addr) (n : Nat) (f : Nat → Ou) : Prop :=
  (∀ i, i < n → (f i).tick ≤ 9223372036854775807) ∧ (0 < n → ∃ b off, A = some ⟨b, off, none⟩ ∧ b < w.heap.size ∧ ∀ i, i < n → ∀ j, j < 11 → w.cell? ⟨b, off + i * 11 + j, none⟩ = (ouC (f i))[j]?)
theorem Ous.below {w w' : World} {A : Option Addr} {n : Nat} {f : Nat → Ou} (h : Ous w A n f) (hb : Below w.heap.size w w') : Ous w' A n f := ⟨h.1, fun h0 => by
  obtain ⟨b, off, e, hl, hc⟩ := h.2 h0
  exact ⟨b, off, e, Nat.lt_of_lt_of_le hl hb.size, fun i hi j hj => (hb.cell (p := ⟨b, off + i * 11 + j, none⟩) hl).trans (hc i hi j hj)⟩⟩
theorem Ous.at_ {w w' : World} {A : Option Addr} {n : Nat} {f : Nat → Ou} (h : Ous w A n f) (h0 : 0 < n) : ∃ b off, A = some ⟨b, off, none⟩ ∧ b < w.heap.size ∧ ∀ w', Below w.heap.size w w' → ∀ i, i < n →
    w'.cell? ⟨b, off + i * 11, none⟩ = some (.int .i64 (f i).tick) ∧ w'.cell? ⟨b, off + i * 11 + 1, none⟩ = some (.int .i64 (f i).mode) ∧ w'.cell? ⟨b, off + i * 11 + 2, none⟩ = some (.int .i64 (f i).latch) ∧
    w'.cell? ⟨b, off + i * 11 + 3, none⟩ = some (.int .i64 (f i).notes) ∧ w'.cell? ⟨b, off + i * 11 + 4, none⟩ = some (.int .i64 (f i).level) ∧ w'.cell? ⟨b, off + i * 11 + 5, none⟩ = some (.int .i64 (f i).buzzer) ∧
    w'.cell? ⟨b, off + i * 11 + 6, none⟩ = some (.int .i64 (f i).open_) ∧ w'.cell? ⟨b, off + i * 11 + 7, none⟩ = some (.int .i64 (f i).pos) ∧ w'.cell? ⟨b, off + i * 11 + 8, none⟩ = some (.int .i64 (f i).volume) ∧
    w'.cell? ⟨b, off + i * 11 + 9, none⟩ = some (.bool (f i).drop) ∧ w'.cell? ⟨b, off + i * 11 + 10, none⟩ = some (.string (f i).frame) := by
  obtain ⟨b, off, e, hl, hc⟩ := h.2 h0
  refine ⟨b, off, e, hl, fun w' hb i hi => ?_⟩
  have g : ∀ j, j < 11 → w'.cell? ⟨b, off + i * 11 + j, none⟩ = (ouC (f i))[j]? := fun j hj => (hb.cell (p := ⟨b, off + i * 11 + j, none⟩) hl).trans (hc i hi j hj)
  exact ⟨g 0 (by omega), g 1 (by omega), g 2 (by omega), g 3 (by omega), g 4 (by omega), g 5 (by omega), g 6 (by omega), g 7 (by omega), g 8 (by omega), g 9 (by omega), g 10 (by omega)⟩
def ou0 : Ou := ⟨0, 0, 0, 0, 0, 0, 0, 0, 0, false, ⟨#[]⟩⟩
theorem int_wf {x : Int} (h : (Lit.int .i64 x).wf = true) : -9223372036854775808 ≤ x ∧ x ≤ 9223372036854775807 := by
  simp only [Lit.wf, IntKind.min, IntKind.max, IntKind.signed, IntKind.bits, Bool.and_eq_true] at h
  have h1 := h.1
  have h2 := h.2
  simp at h1 h2
  exact ⟨h1, h2⟩
theorem wf_int {x : Int} (h : 0 ≤ x ∧ x ≤ 9223372036854775807) : (Lit.int .i64 x).wf = true := by
  simp [Lit.wf, IntKind.min, IntKind.max, IntKind.signed, IntKind.bits]; omega
theorem Ous.of_rows {w : World} {A : Option Addr} {n : Nat} {rs : List (List Value)} (h : Rows [.int .i64, .int .i64, .int .i64, .int .i64, .int .i64, .int .i64, .int .i64, .int .i64, .int .i64, .bool, .string] w A n rs) : ∃ f, Ous w A n f := by
  have one : ∀ i, i < n → ∃ x : Ou, x.tick ≤ 9223372036854775807 ∧ ∀ j, j < 11 → some ((rs.getD i []).getD j undef) = (ouC x)[j]? := fun i hi => by
    obtain ⟨hl, hk⟩ := h.2.1 i hi
    obtain ⟨a0, e0, w0⟩ := hk 0 _ rfl
    obtain ⟨a1, e1, w1⟩ := hk 1 _ rfl
    obtain ⟨a2, e2, w2⟩ := hk 2 _ rfl
    obtain ⟨a3, e3, w3⟩ := hk 3 _ rfl
    obtain ⟨a4, e4, w4⟩ := hk 4 _ rfl
    obtain ⟨a5, e5, w5⟩ := hk 5 _ rfl
    obtain ⟨a6, e6, w6⟩ := hk 6 _ rfl
    obtain ⟨a7, e7, w7⟩ := hk 7 _ rfl
    obtain ⟨a8, e8, w8⟩ := hk 8 _ rfl
    obtain ⟨a9, e9⟩ := hk 9 _ rfl
    obtain ⟨a10, e10, w10⟩ := hk 10 _ rfl
    refine ⟨⟨a0, a1, a2, a3, a4, a5, a6, a7, a8, a9, a10⟩, (int_wf w0).2, fun j hj => ?_⟩
    match j, hj with
    | 0, _ => exact congrArg some e0
    | 1, _ => exact congrArg some e1
    | 2, _ => exact congrArg some e2
    | 3, _ => exact congrArg some e3
    | 4, _ => exact congrArg some e4
    | 5, _ => exact congrArg some e5
    | 6, _ => exact congrArg some e6
    | 7, _ => exact congrArg some e7
    | 8, _ => exact congrArg some e8
    | 9, _ => exact congrArg some e9
    | 10, _ => exact congrArg some e10
  have pick : ∀ i, ∃ x : Ou, i < n → x.tick ≤ 9223372036854775807 ∧ ∀ j, j < 11 → some ((rs.getD i []).getD j undef) = (ouC x)[j]? := fun i => by
    by_cases hi : i < n
    · obtain ⟨x, hx⟩ := one i hi
      exact ⟨x, fun _ => hx⟩
    · exact ⟨ou0, fun h => absurd h hi⟩
  obtain ⟨f, hf⟩ := Classical.axiomOfChoice pick
  refine ⟨f, fun i hi => (hf i hi).1, fun h0 => ?_⟩
  obtain ⟨b, off, e, hl, hc⟩ := h.2.2 h0
  refine ⟨b, off, e, hl, fun i hi j hj => ?_⟩
  have h1 := hc i hi j hj
  rw [show ([TypeDesc.int .i64, .int .i64, .int .i64, .int .i64, .int .i64, .int .i64, .int .i64, .int .i64, .int .i64, .bool, .string] : List TypeDesc).length = 11 from rfl, ← Nat.add_assoc] at h1
  rw [h1]
  exact (hf i hi).2 j hj
theorem Bks.of_rows {w : World} {A : Option Addr} {n : Nat} {rs : List (List Value)} (h : Rows [.int .i64, .int .i64, .int .i64, .int .i64, .int .i64, .int .i64, .int .i64] w A n rs) : ∃ f, Bks w A n f := by
  have one : ∀ i, i < n → ∃ x : Bk, ∀ j, j < 7 → some ((rs.getD i []).getD j undef) = (bkC x)[j]? := fun i hi => by
    obtain ⟨hl, hk⟩ := h.2.1 i hi
    obtain ⟨a0, e0, w0⟩ := hk 0 _ rfl
    obtain ⟨a1, e1, w1⟩ := hk 1 _ rfl
    obtain ⟨a2, e2, w2⟩ := hk 2 _ rfl
    obtain ⟨a3, e3, w3⟩ := hk 3 _ rfl
    obtain ⟨a4, e4, w4⟩ := hk 4 _ rfl
    obtain ⟨a5, e5, w5⟩ := hk 5 _ rfl
    obtain ⟨a6, e6, w6⟩ := hk 6 _ rfl
    refine ⟨⟨a0, a1, a2, a3, a4, a5, a6⟩, fun j hj => ?_⟩
    match j, hj with
    | 0, _ => exact congrArg some e0
    | 1, _ => exact congrArg some e1
    | 2, _ => exact congrArg some e2
    | 3, _ => exact congrArg some e3
    | 4, _ => exact congrArg some e4
    | 5, _ => exact congrArg some e5
    | 6, _ => exact congrArg some e6
  have pick : ∀ i, ∃ x : Bk, i < n → ∀ j, j < 7 → some ((rs.getD i []).getD j undef) = (bkC x)[j]? := fun i => by
    by_cases hi : i < n
    · obtain ⟨x, hx⟩ := one i hi
      exact ⟨x, fun _ => hx⟩
    · exact ⟨⟨0, 0, 0, 0, 0, 0, 0⟩, fun h => absurd h hi⟩
  obtain ⟨f, hf⟩ := Classical.axiomOfChoice pick
  refine ⟨f, fun h0 => ?_⟩
  obtain ⟨b, off, e, hl, hc⟩ := h.2.2 h0
  refine ⟨b, off, e, hl, fun i hi j hj => ?_⟩
  have h1 := hc i hi j hj
  rw [show ([TypeDesc.int .i64, .int .i64, .int .i64, .int .i64, .int .i64, .int .i64, .int .i64] : List TypeDesc).length = 7 from rfl, ← Nat.add_assoc] at h1
  rw [h1]
  exact hf i hi j hj
end Go.Proofs.Ytjhdlcemeemlhaa
