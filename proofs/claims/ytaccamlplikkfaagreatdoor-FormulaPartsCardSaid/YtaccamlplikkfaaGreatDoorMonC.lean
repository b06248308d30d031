/- Contracts of packages formula, holds and monitor: what stands alone. -/
import Derived.Test.YtaccamlplikkfaaGreatDoorCol
import Derived.Test.YtaccamlplikkfaaGreatDoorBox
import Derived.Test.YtaccamlplikkfaaGreatDoorWorld
import Derived.Deep.LoopGhost
import Derived.Deep.DeepCutAuto
import Derived.Deep.CutBlock
namespace Go.Proofs.YtaccamlplikkfaaGreatDoor
open Go.RowKit
set_option linter.unusedVariables false
set_option linter.unusedSimpArgs false
set_option maxRecDepth 100000
attribute [local go_sem] cell_set_ite Near.cell Near.frozen

/-- A part of a formula. -/
structure Tm where
  op : Int
  a : Int
  b : Int
def Tm.val (t : Tm) : Value := .agg #[.int .i64 t.op, .int .i64 t.a, .int .i64 t.b]
/-- A formula's parts, as they lie; nil let in. -/
def Terms (w : World) (A : Option Addr) (n : Nat) (ts : Nat → Tm) : Prop :=
  (∀ i, i < n → (ts i).b ≤ 9223372036854775807) ∧ (0 < n → ∃ b off, A = some ⟨b, off, none⟩ ∧ b < w.heap.size ∧ ∀ i, i < n → w.cell? ⟨b, off + i * 3, none⟩ = some (.int .i64 (ts i).op) ∧ w.cell? ⟨b, off + i * 3 + 1, none⟩ = some (.int .i64 (ts i).a) ∧ w.cell? ⟨b, off + i * 3 + 2, none⟩ = some (.int .i64 (ts i).b))
theorem Terms.below {w w' : World} {A : Option Addr} {n : Nat} {ts : Nat → Tm} (h : Terms w A n ts) (hb : Below w.heap.size w w') : Terms w' A n ts := ⟨h.1, fun h0 => by
  obtain ⟨b, off, e, hl, hc⟩ := h.2 h0
  exact ⟨b, off, e, Nat.lt_of_lt_of_le hl hb.size, fun i hi => ⟨(hb.cell (p := ⟨b, off + i * 3, none⟩) hl).trans (hc i hi).1, (hb.cell (p := ⟨b, off + i * 3 + 1, none⟩) hl).trans (hc i hi).2.1, (hb.cell (p := ⟨b, off + i * 3 + 2, none⟩) hl).trans (hc i hi).2.2⟩⟩⟩
theorem Terms.of_rows {w : World} {A : Option Addr} {n : Nat} {rs : List (List Value)} (h : Rows [.int .i64, .int .i64, .int .i64] w A n rs) : ∃ ts, Terms w A n ts := by
  have hk : ∀ i j, i < n → j < 3 → ∃ x, (rs.getD i []).getD j undef = .int .i64 x ∧ x ≤ 9223372036854775807 := fun i j hi hj => by
    obtain ⟨_, hk⟩ := h.2.1 i hi
    have := hk j (.int .i64) (by match j, hj with | 0, _ => rfl | 1, _ => rfl | 2, _ => rfl)
    obtain ⟨x, hx, hw⟩ := this
    refine ⟨x, hx, ?_⟩
    simp only [Lit.wf, IntKind.min, IntKind.max, IntKind.signed, IntKind.bits, Bool.and_eq_true] at hw
    have hw2 := hw.2
    simp at hw2
    exact hw2
  let f : Nat → Nat → Int := fun i j => match (rs.getD i []).getD j undef with | .int _ x => x | _ => 0
  refine ⟨fun i => ⟨f i 0, f i 1, f i 2⟩, fun i hi => ?_, fun h0 => ?_⟩
  · obtain ⟨x, hx, hxb⟩ := hk i 2 hi (by omega)
    show (match (rs.getD i []).getD 2 undef with | .int _ x => x | _ => 0) ≤ _
    rw [hx]; exact hxb
  obtain ⟨b, off, e, hb, hc⟩ := h.2.2 h0
  refine ⟨b, off, e, hb, fun i hi => ?_⟩
  have hf : ∀ j, j < 3 → w.cell? ⟨b, off + (i * 3 + j), none⟩ = some (.int .i64 (f i j)) := fun j hj => by
    have h1 := hc i hi j (by simpa using hj)
    obtain ⟨x, hx, _⟩ := hk i j hi hj
    have e3 : [TypeDesc.int .i64, .int .i64, .int .i64].length = 3 := rfl
    rw [e3, hx] at h1
    rw [h1]
    show _ = some (Value.int .i64 (match (rs.getD i []).getD j undef with | .int _ x => x | _ => 0))
    rw [hx]
  exact ⟨hf 0 (by omega), hf 1 (by omega), hf 2 (by omega)⟩

theorem rb_ {p q : Bool} (h : p = q) : Ending.returned (.bool p) = .returned (.bool q) := by rw [h]
theorem ri_ {p q : Int} (h : p = q) : Ending.returned (.int .i64 p) = .returned (.int .i64 q) := by rw [h]
/-- How many formulas a part needs. -/
def ndN (op : Int) : Nat := if op = 3 ∨ op = 6 ∨ op = 7 then 1 else if op = 4 ∨ op = 5 ∨ op = 8 then 2 else 0
theorem nd_le (op : Int) : ndN op ≤ 2 := by
  unfold ndN
  repeat' split
  all_goals omega
set_option maxHeartbeats 1000000 in
theorem fo_needs (op : Int) (w : World) : Calls Tryz.prog 16 #[.int .i64 op] w fun e w' => e = .returned (.int .i64 (ndN op)) ∧ w = w' := by
  have hf : ∀ k : Int, op ≠ k → (op == k) = false := fun k h => by simpa using h
  have ways : op = 3 ∨ op = 6 ∨ op = 7 ∨ op = 4 ∨ op = 5 ∨ op = 8 ∨ (op ≠ 3 ∧ op ≠ 6 ∧ op ≠ 7 ∧ op ≠ 4 ∧ op ≠ 5 ∧ op ≠ 8) := by omega
  rcases ways with rfl | rfl | rfl | rfl | rfl | rfl | ⟨h3, h6, h7, h4, h5, h8⟩
  case inr.inr.inr.inr.inr.inr =>
    have z3 := hf 3 h3
    have z6 := hf 6 h6
    have z7 := hf 7 h7
    have z4 := hf 4 h4
    have z5 := hf 5 h5
    have z8 := hf 8 h8
    have hn : ndN op = 0 := by unfold ndN; rw [if_neg (by omega), if_neg (by omega)]
    rw [hn]
    clear hf h3 h6 h7 h4 h5 h8 hn
    go_enter Tryz.func16, Tryz.ntmps16
    go_wp2
    all_goals go_ret
    all_goals exact ⟨rfl, rfl⟩
  all_goals
    clear hf
    go_enter Tryz.func16, Tryz.ntmps16
    go_wp2
    all_goals go_ret
    all_goals exact ⟨rfl, rfl⟩
/-- What may be asked. -/
def akB (what least : Int) : Bool := if what = 11 then decide (0 < least) && (bits .and .i64 least (least - 1) == 0) && decide (least ≤ 4095) else decide (1 ≤ what) && decide (what ≤ 10) && decide (0 ≤ least) && decide (least ≤ 2147483647)
set_option maxHeartbeats 1000000 in
theorem fo_asks (what least : Int) (h9 : least ≤ 9223372036854775807) (w : World) : Calls Tryz.prog 29 #[.int .i64 what, .int .i64 least] w fun e w' => e = .returned (.bool (akB what least)) ∧ w = w' := by
  unfold akB
  by_cases h : what = 11
  · subst h
    rw [if_pos rfl]
    by_cases h1 : 0 < least
    · have t1 := decide_eq_true h1
      · have wl : IntKind.i64.wrap (least - 1) = least - 1 := by rw [IntKind.wrap_i64]; omega
        cases hz : bits .and .i64 least (least - 1) == 0
        · have hz0 : ¬ bits .and .i64 least (least - 1) = 0 := by simpa using hz
          rw [t1]
          clear h1 h9
          go_enter Tryz.func29, Tryz.ntmps29
          go_wp2
          all_goals go_ret
          all_goals exact ⟨rfl, rfl⟩
        · have hz0 : bits .and .i64 least (least - 1) = 0 := by simpa using hz
          rw [t1]
          go_enter Tryz.func29, Tryz.ntmps29
          go_wp2
          all_goals go_ret
          all_goals exact ⟨rb_ (by simp), rfl⟩
    · have t1 := decide_eq_false h1
      rw [t1]
      go_enter Tryz.func29, Tryz.ntmps29
      go_wp2
      all_goals go_ret
      all_goals exact ⟨rfl, rfl⟩
  · rw [if_neg h]
    have t0 : (what == 11) = false := by simpa using h
    clear h
    cases t1 : decide (1 ≤ what) <;> cases t2 : decide (what ≤ 10) <;> cases t3 : decide (0 ≤ least)
    all_goals
      go_enter Tryz.func29, Tryz.ntmps29
      go_wp2
      all_goals go_ret
      all_goals exact ⟨rfl, rfl⟩
end Go.Proofs.YtaccamlplikkfaaGreatDoor
