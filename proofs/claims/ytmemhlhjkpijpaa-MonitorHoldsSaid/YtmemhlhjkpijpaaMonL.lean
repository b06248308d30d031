/- Two formulas, and their runs behind one drop: mathematics. Memory made for what ticks tell. -/
import Derived.Test.YtmemhlhjkpijpaaMonRun
namespace Go.Proofs.Ytmemhlhjkpijpaa
open Go.RowKit
set_option linter.unusedVariables false
set_option linter.unusedSimpArgs false
set_option maxRecDepth 100000

def tsO (a : Int) : Nat → Tm := fun i => if i = 0 then ⟨2, 9, 1⟩ else ⟨6, a, 0⟩
def tsA (a : Int) : Nat → Tm := fun i => if i = 0 then ⟨2, 9, 1⟩ else if i = 1 then ⟨3, 0, 0⟩ else ⟨7, a, 0⟩
def ouD (d : Bool) : Ou := ⟨0, 0, 0, 0, 0, 0, 0, 0, 0, d, ⟨#[]⟩⟩
def osL : Nat → Ou := fun i => ouD (decide (i = 0))
theorem al_drop (d : Bool) : alB ⟨2, 9, 1⟩ (ouD d) = d := by cases d <;> decide
theorem my_drop : myB ⟨2, 9, 1⟩ = true := by decide
theorem my_once {a : Int} (h0 : 0 ≤ a) (h1 : a ≤ 1000) : myB ⟨6, a, 0⟩ = true := by
  unfold myB; simp; omega
theorem my_always {a : Int} (h0 : 0 ≤ a) (h1 : a ≤ 1000) : myB ⟨7, a, 0⟩ = true := by
  unfold myB; simp; omega
theorem rtO {a : Int} (h0 : 0 ≤ a) (h1 : a ≤ 1000) : rtB (tsO a) 2 = true := by
  have e0 : tsO a 0 = ⟨2, 9, 1⟩ := rfl
  have e1 : tsO a 1 = ⟨6, a, 0⟩ := rfl
  unfold rtB
  simp only [okB, rdN, e0, e1, my_drop, my_once h0 h1]
  decide
theorem rtA {a : Int} (h0 : 0 ≤ a) (h1 : a ≤ 1000) : rtB (tsA a) 3 = true := by
  have e0 : tsA a 0 = ⟨2, 9, 1⟩ := rfl
  have e1 : tsA a 1 = ⟨3, 0, 0⟩ := rfl
  have e2 : tsA a 2 = ⟨7, a, 0⟩ := rfl
  have m1 : myB ⟨3, 0, 0⟩ = true := by decide
  unfold rtB
  simp only [okB, rdN, e0, e1, e2, my_drop, m1, my_always h0 h1]
  decide
theorem skO (a : Int) (ks : List Int) (d : Bool) : skF (tsO a) ks (ouD d) 2 0 = unB ⟨6, a, 0⟩ d (ks.getD 1 0) := by
  have h : skF (tsO a) ks (ouD d) 2 0 = unB ⟨6, a, 0⟩ (alB ⟨2, 9, 1⟩ (ouD d)) (ks.getD 1 0) := rfl
  rw [h, al_drop]
theorem nxO (a : Int) (ks : List Int) (d : Bool) : nxV (tsO a) ks (ouD d) 1 = agoV (ks.getD 1 0) d := by
  have h : nxV (tsO a) ks (ouD d) 1 = unV ⟨6, a, 0⟩ (alB ⟨2, 9, 1⟩ (ouD d)) (ks.getD 1 0) := rfl
  rw [h, al_drop]; rfl
theorem skA (a : Int) (ks : List Int) (d : Bool) : skF (tsA a) ks (ouD d) 3 0 = unB ⟨7, a, 0⟩ (!d) (ks.getD 2 0) := by
  have h : skF (tsA a) ks (ouD d) 3 0 = unB ⟨7, a, 0⟩ (unB ⟨3, 0, 0⟩ (alB ⟨2, 9, 1⟩ (ouD d)) (ks.getD 1 0)) (ks.getD 2 0) := rfl
  rw [h, al_drop]; rfl
theorem nxA (a : Int) (ks : List Int) (d : Bool) : nxV (tsA a) ks (ouD d) 2 = agoV (ks.getD 2 0) d := by
  have h : nxV (tsA a) ks (ouD d) 2 = unV ⟨7, a, 0⟩ (unB ⟨3, 0, 0⟩ (alB ⟨2, 9, 1⟩ (ouD d)) (ks.getD 1 0)) (ks.getD 2 0) := rfl
  rw [h, al_drop]
  show agoV (ks.getD 2 0) (!(!d)) = _
  rw [Bool.not_not]
theorem kpO (a : Int) : ∀ k, agoV ((kpL (tsO a) 2 osL k).getD 1 0) (decide (k = 0)) = min (k : Int) 1001
  | 0 => rfl
  | k + 1 => by
    have ih := kpO a k
    have e : (kpL (tsO a) 2 osL (k + 1)).getD 1 0 = agoV ((kpL (tsO a) 2 osL k).getD 1 0) (decide (k = 0)) := by
      show ((List.range 2).map (nxV (tsO a) (kpL (tsO a) 2 osL k) (osL k))).getD 1 0 = _
      rw [← nxO a _ (decide (k = 0))]
      rfl
    rw [e, ih]
    unfold agoV
    rw [if_neg (by simp), if_neg (by omega)]
    omega
theorem kpA (a : Int) : ∀ k, agoV ((kpL (tsA a) 3 osL k).getD 2 0) (decide (k = 0)) = min (k : Int) 1001
  | 0 => rfl
  | k + 1 => by
    have ih := kpA a k
    have e : (kpL (tsA a) 3 osL (k + 1)).getD 2 0 = agoV ((kpL (tsA a) 3 osL k).getD 2 0) (decide (k = 0)) := by
      show ((List.range 3).map (nxV (tsA a) (kpL (tsA a) 3 osL k) (osL k))).getD 2 0 = _
      rw [← nxA a _ (decide (k = 0))]
      rfl
    rw [e, ih]
    unfold agoV
    rw [if_neg (by simp), if_neg (by omega)]
    omega
theorem runO {a : Int} (h0 : 0 ≤ a) (h1 : a ≤ 1000) (k : Nat) : ruB (tsO a) 2 osL k = decide ((k : Int) ≤ a) := by
  show skF (tsO a) (kpL (tsO a) 2 osL k) (ouD (decide (k = 0))) 2 0 = _
  rw [skO]
  show (decide (agoV _ _ ≠ -1) && decide (agoV _ _ ≤ a)) = _
  rw [kpO]
  by_cases h : (k : Int) ≤ a
  · rw [decide_eq_true h, decide_eq_true (by omega), decide_eq_true (by omega)]; rfl
  · rw [decide_eq_false h, decide_eq_false (p := min (k : Int) 1001 ≤ a) (by omega), Bool.and_false]
theorem runA {a : Int} (h0 : 0 ≤ a) (h1 : a ≤ 1000) (k : Nat) : ruB (tsA a) 3 osL k = decide (a < (k : Int)) := by
  show skF (tsA a) (kpL (tsA a) 3 osL k) (ouD (decide (k = 0))) 3 0 = _
  rw [skA]
  show (decide (agoV _ (!(!_)) = -1) || decide (a < agoV _ (!(!_)))) = _
  rw [Bool.not_not, kpA]
  by_cases h : a < (k : Int)
  · rw [decide_eq_true h, decide_eq_true (p := a < min (k : Int) 1001) (by omega), Bool.or_true]
  · rw [decide_eq_false h, decide_eq_false (by omega), decide_eq_false (by omega)]; rfl

theorem out_info : (Try.prog.info? 29).map (fun i => (i.zero, i.size, i.bytes)) = some (some (.agg (ouD false).cells), 11, 96) := by kernel_rfl
theorem made_out (w : World) (m : Nat) (t : TypeId) (i j : Nat) (hi : i < m) (hj : j < 11) : (w.alloc (.cells (madeCells (ouD false).cells (m * 11)) t)).cell? ⟨w.heap.size, i * 11 + j, none⟩ = (ouD false).cells[j]? := by
  rw [World.cell?_alloc_at _ _ _ _ rfl]
  have hm : (i * 11 + j) % 11 = j := by omega
  have hs : (ouD false).cells.size = 11 := rfl
  unfold madeCells
  rw [Array.getElem?_map, Array.getElem?_range, if_pos (by omega)]
  simp only [Option.map_some, hs, hm]
  match j, hj with
  | 0, _ => rfl
  | 1, _ => rfl
  | 2, _ => rfl
  | 3, _ => rfl
  | 4, _ => rfl
  | 5, _ => rfl
  | 6, _ => rfl
  | 7, _ => rfl
  | 8, _ => rfl
  | 9, _ => rfl
  | 10, _ => rfl
end Go.Proofs.Ytmemhlhjkpijpaa
