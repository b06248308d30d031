/- A script as it lies in memory. -/
import Derived.Test.YteeiebopfjlffaaWireT
import Derived.Test.YteeiebopfjlffaaLeaf
namespace Go.Proofs.Yteeiebopfjlffaa
set_option maxRecDepth 100000
open Go.RowKit Ieee
set_option linter.unusedVariables false
set_option linter.unusedSimpArgs false

def stC (x : Sp) : List Value := [.float .f64 x.raw.adc, .float .f64 x.raw.tilt, .float .f64 x.raw.bat, .float .f64 x.raw.enc, .bool x.raw.door, .int .i64 x.raw.key, .bool x.raw.wr, .bool x.cut, .string x.torn]
def wfX (x : Sp) : Prop := wfR x.raw ∧ -9223372036854775808 ≤ x.raw.key ∧ x.raw.key ≤ 9223372036854775807 ∧ x.torn.size ≤ maxLen
def Stp (w : World) (A : Option Addr) (n : Nat) (f : Nat → Sp) : Prop :=
  (∀ i, i < n → wfX (f i)) ∧ (0 < n → ∃ b off, A = some ⟨b, off, none⟩ ∧ b < w.heap.size ∧ ∀ i, i < n → ∀ j, j < 9 → w.cell? ⟨b, off + i * 9 + j, none⟩ = (stC (f i))[j]?)
theorem Stp.below {w w' : World} {A : Option Addr} {n : Nat} {f : Nat → Sp} (h : Stp w A n f) (hb : Below w.heap.size w w') : Stp w' A n f := ⟨h.1, fun h0 => by
  obtain ⟨b, off, e, hl, hc⟩ := h.2 h0
  exact ⟨b, off, e, Nat.lt_of_lt_of_le hl hb.size, fun i hi j hj => (hb.cell (p := ⟨b, off + i * 9 + j, none⟩) hl).trans (hc i hi j hj)⟩⟩
theorem Stp.at_ {w : World} {A : Option Addr} {n : Nat} {f : Nat → Sp} (h : Stp w A n f) (h0 : 0 < n) : ∃ b off, A = some ⟨b, off, none⟩ ∧ b < w.heap.size ∧ ∀ i, i < n →
    w.cell? ⟨b, off + i * 9, none⟩ = some (.float .f64 (f i).raw.adc) ∧ w.cell? ⟨b, off + i * 9 + 1, none⟩ = some (.float .f64 (f i).raw.tilt) ∧ w.cell? ⟨b, off + i * 9 + 2, none⟩ = some (.float .f64 (f i).raw.bat) ∧
    w.cell? ⟨b, off + i * 9 + 3, none⟩ = some (.float .f64 (f i).raw.enc) ∧ w.cell? ⟨b, off + i * 9 + 4, none⟩ = some (.bool (f i).raw.door) ∧ w.cell? ⟨b, off + i * 9 + 5, none⟩ = some (.int .i64 (f i).raw.key) ∧
    w.cell? ⟨b, off + i * 9 + 6, none⟩ = some (.bool (f i).raw.wr) ∧ w.cell? ⟨b, off + i * 9 + 7, none⟩ = some (.bool (f i).cut) ∧ w.cell? ⟨b, off + i * 9 + 8, none⟩ = some (.string (f i).torn) := by
  obtain ⟨b, off, e, hl, hc⟩ := h.2 h0
  exact ⟨b, off, e, hl, fun i hi => ⟨hc i hi 0 (by omega), hc i hi 1 (by omega), hc i hi 2 (by omega), hc i hi 3 (by omega), hc i hi 4 (by omega), hc i hi 5 (by omega), hc i hi 6 (by omega), hc i hi 7 (by omega), hc i hi 8 (by omega)⟩⟩
theorem fl_lt {b : Nat} (h : (Lit.float .f64 b).wf = true) : b < 18446744073709551616 := by
  simpa [Lit.wf] using h
theorem int_wf {x : Int} (h : (Lit.int .i64 x).wf = true) : -9223372036854775808 ≤ x ∧ x ≤ 9223372036854775807 := by
  simp only [Lit.wf, IntKind.min, IntKind.max, IntKind.signed, IntKind.bits, Bool.and_eq_true] at h
  have h1 := h.1
  have h2 := h.2
  simp at h1 h2
  exact ⟨h1, h2⟩
theorem Stp.of_rows {w : World} {A : Option Addr} {n : Nat} {rs : List (List Value)} (h : Rows [.float .f64, .float .f64, .float .f64, .float .f64, .bool, .int .i64, .bool, .bool, .string] w A n rs) : ∃ f, Stp w A n f := by
  have one : ∀ i, i < n → ∃ x : Sp, wfX x ∧ ∀ j, j < 9 → some ((rs.getD i []).getD j undef) = (stC x)[j]? := fun i hi => by
    obtain ⟨hl, hk⟩ := h.2.1 i hi
    obtain ⟨a0, e0, w0⟩ := hk 0 _ rfl
    obtain ⟨a1, e1, w1⟩ := hk 1 _ rfl
    obtain ⟨a2, e2, w2⟩ := hk 2 _ rfl
    obtain ⟨a3, e3, w3⟩ := hk 3 _ rfl
    obtain ⟨a4, e4⟩ := hk 4 _ rfl
    obtain ⟨a5, e5, w5⟩ := hk 5 _ rfl
    obtain ⟨a6, e6⟩ := hk 6 _ rfl
    obtain ⟨a7, e7⟩ := hk 7 _ rfl
    obtain ⟨a8, e8, w8⟩ := hk 8 _ rfl
    refine ⟨⟨⟨a0, a1, a2, a3, a4, a5, a6⟩, a7, a8⟩, ⟨⟨fl_lt w0, fl_lt w1, fl_lt w2, fl_lt w3⟩, (int_wf w5).1, (int_wf w5).2, w8⟩, fun j hj => ?_⟩
    match j, hj with
    | 0, _ => exact congrArg some e0
    | 1, _ => exact congrArg some e1
    | 2, _ => exact congrArg some e2
    | 3, _ => exact congrArg some e3
    | 4, _ => exact congrArg some e4
    | 5, _ => exact congrArg some e5
    | 6, _ => exact congrArg some e6
    | 7, _ => exact congrArg some e7
    | 8, _ => exact congrArg some e8
  have pick : ∀ i, ∃ x : Sp, i < n → wfX x ∧ ∀ j, j < 9 → some ((rs.getD i []).getD j undef) = (stC x)[j]? := fun i => by
    by_cases hi : i < n
    · obtain ⟨x, hx⟩ := one i hi
      exact ⟨x, fun _ => hx⟩
    · exact ⟨⟨noR, false, ⟨#[]⟩⟩, fun h => absurd h hi⟩
  obtain ⟨f, hf⟩ := Classical.axiomOfChoice pick
  refine ⟨f, fun i hi => (hf i hi).1, fun h0 => ?_⟩
  obtain ⟨b, off, e, hl, hc⟩ := h.2.2 h0
  refine ⟨b, off, e, hl, fun i hi j hj => ?_⟩
  have h1 := hc i hi j hj
  rw [show ([TypeDesc.float .f64, .float .f64, .float .f64, .float .f64, .bool, .int .i64, .bool, .bool, .string] : List TypeDesc).length = 9 from rfl, ← Nat.add_assoc] at h1
  rw [h1]
  exact (hf i hi).2 j hj
end Go.Proofs.Yteeiebopfjlffaa
