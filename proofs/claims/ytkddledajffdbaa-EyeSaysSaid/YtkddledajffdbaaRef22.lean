/- Contracts of the document's eye. -/
import Derived.Test.YtkddledajffdbaaEyeL
import Derived.Test.YtkddledajffdbaaCalm
import Derived.Test.YtkddledajffdbaaWorld
import Derived.Test.YtkddledajffdbaaBx
import Derived.Deep.CutBlock
import Derived.Deep.DeepCutAuto
namespace Go.Proofs.Ytkddledajffdbaa
open Go.RowKit
set_option linter.unusedVariables false
set_option linter.unusedSimpArgs false
set_option maxRecDepth 100000

theorem rra_any (b a : Int) (s : Bool) (w : World) : Calls Try.prog 47 #[.int .i64 b, .int .i64 a, .bool s] w fun e w' => e = .returned (.int .i64 (eyN b a s)) ∧ w = w' := by
  cases s
  · exact ra_step_no b a w
  · exact ra_step_sh b a w
theorem r21_step (run a bad : Int) (w : World) : Calls Try.prog 46 #[.int .i64 run, .int .i64 a, .int .i64 bad] w fun e w' => e = .returned (.int .i64 (raV run a bad)) ∧ w = w' := by
  have h1 := and_one bad
  have hw : ∀ K : Int, (K = withV run 0 1099511627776 + 1) → eaB a bad = true → raV run a bad = K := fun K e h => by unfold raV; rw [if_pos h, e]
  by_cases ha : a ≤ 0
  · have t1 : decide (0 < a) = false := decide_eq_false (by omega)
    have he : eaB a bad = true := by unfold eaB; rw [decide_eq_true ha]; rfl
    rcases (by omega : run < 0 ∨ (0 ≤ run ∧ run ≤ 1099511627776) ∨ 1099511627776 < run) with g1 | ⟨g1, g2⟩ | g1
    · rw [hw _ (by rw [withR_1 g1]) he]
      clear h1 hw he
      go_enter Try.func46, Try.ntmps46
      go_wp2
      all_goals go_ret
      all_goals exact ⟨ret_i (by omega), rfl⟩
    · rw [hw _ (by rw [withR_2 g1 g2]) he]
      clear h1 hw he
      go_enter Try.func46, Try.ntmps46
      go_wp2
      all_goals go_ret
      all_goals exact ⟨ret_i (by omega), rfl⟩
    · rw [hw _ (by rw [withR_3 g1]) he]
      clear h1 hw he
      go_enter Try.func46, Try.ntmps46
      go_wp2
      all_goals go_ret
      all_goals exact ⟨ret_i (by omega), rfl⟩
  · have t1 : decide (0 < a) = true := decide_eq_true (by omega)
    by_cases hb : 4095 ≤ a
    · have t2 : decide (a < 4095) = false := decide_eq_false (by omega)
      have he : eaB a bad = true := by unfold eaB; rw [decide_eq_true hb, Bool.true_or, Bool.or_true]
      rcases (by omega : run < 0 ∨ (0 ≤ run ∧ run ≤ 1099511627776) ∨ 1099511627776 < run) with g1 | ⟨g1, g2⟩ | g1
      · rw [hw _ (by rw [withR_1 g1]) he]
        clear h1 hw he
        go_enter Try.func46, Try.ntmps46
        go_wp2
        all_goals go_ret
        all_goals exact ⟨ret_i (by omega), rfl⟩
      · rw [hw _ (by rw [withR_2 g1 g2]) he]
        clear h1 hw he
        go_enter Try.func46, Try.ntmps46
        go_wp2
        all_goals go_ret
        all_goals exact ⟨ret_i (by omega), rfl⟩
      · rw [hw _ (by rw [withR_3 g1]) he]
        clear h1 hw he
        go_enter Try.func46, Try.ntmps46
        go_wp2
        all_goals go_ret
        all_goals exact ⟨ret_i (by omega), rfl⟩
    · have t2 : decide (a < 4095) = true := decide_eq_true (by omega)
      rcases (by omega : bad % 2 = 0 ∨ bad % 2 = 1) with h | h
      · have he : eaB a bad = false := by unfold eaB; rw [decide_eq_false ha, decide_eq_false hb, h]; rfl
        have hv : raV run a bad = 0 := by unfold raV; rw [he]; rfl
        rw [hv]
        rw [h] at h1
        clear h he hv hw
        go_enter Try.func46, Try.ntmps46
        go_wp2
        all_goals go_ret
        all_goals exact ⟨rfl, rfl⟩
      · have he : eaB a bad = true := by unfold eaB; rw [h]; simp
        rw [h] at h1
        rcases (by omega : run < 0 ∨ (0 ≤ run ∧ run ≤ 1099511627776) ∨ 1099511627776 < run) with g1 | ⟨g1, g2⟩ | g1
        · rw [hw _ (by rw [withR_1 g1]) he]
          clear hw he h
          go_enter Try.func46, Try.ntmps46
          go_wp2
          all_goals go_ret
          all_goals exact ⟨ret_i (by omega), rfl⟩
        · rw [hw _ (by rw [withR_2 g1 g2]) he]
          clear hw he h
          go_enter Try.func46, Try.ntmps46
          go_wp2
          all_goals go_ret
          all_goals exact ⟨ret_i (by omega), rfl⟩
        · rw [hw _ (by rw [withR_3 g1]) he]
          clear hw he h
          go_enter Try.func46, Try.ntmps46
          go_wp2
          all_goals go_ret
          all_goals exact ⟨ret_i (by omega), rfl⟩
theorem r21_fault (run bad : Int) (w : World) : Calls Try.prog 48 #[.int .i64 run, .int .i64 bad] w fun e w' => e = .returned (.bool (faB run bad)) ∧ w = w' := by
  unfold faB
  by_cases hb : bad = 0
  · subst hb
    go_enter Try.func48, Try.ntmps48
    go_wp2
    all_goals go_ret
    all_goals exact ⟨ret_b (by simp), rfl⟩
  · have t1 : (bad != 0) = true := by simpa using hb
    rw [decide_eq_true hb, Bool.true_or]
    go_enter Try.func48, Try.ntmps48
    go_wp2
    all_goals go_ret
    all_goals exact ⟨rfl, rfl⟩

theorem two_boxes {base w : World} {n o : Nat} {u0 u1 u2 u3 u4 u5 u6 u7 v0 v1 v2 v3 : Value} (hn : Box w n #[u0, u1, u2, u3, u4, u5, u6, u7]) (ho : Box w o #[v0, v1, v2, v3]) (h : o ≠ n) (A : Below base.heap.size base w) (bn : base.heap.size ≤ n) (bo : base.heap.size ≤ o) (x0 x1 x2 x3 x4 x5 x6 x7 y0 y1 y2 y3 : Value) :
    Box ((((((((((((w.setCell ⟨n, 0, none⟩ x0).setCell ⟨n, 1, none⟩ x1).setCell ⟨n, 2, none⟩ x2).setCell ⟨n, 3, none⟩ x3).setCell ⟨n, 4, none⟩ x4).setCell ⟨n, 5, none⟩ x5).setCell ⟨n, 6, none⟩ x6).setCell ⟨n, 7, none⟩ x7).setCell ⟨o, 0, none⟩ y0).setCell ⟨o, 1, none⟩ y1).setCell ⟨o, 2, none⟩ y2).setCell ⟨o, 3, none⟩ y3) n #[x0, x1, x2, x3, x4, x5, x6, x7] ∧ Box ((((((((((((w.setCell ⟨n, 0, none⟩ x0).setCell ⟨n, 1, none⟩ x1).setCell ⟨n, 2, none⟩ x2).setCell ⟨n, 3, none⟩ x3).setCell ⟨n, 4, none⟩ x4).setCell ⟨n, 5, none⟩ x5).setCell ⟨n, 6, none⟩ x6).setCell ⟨n, 7, none⟩ x7).setCell ⟨o, 0, none⟩ y0).setCell ⟨o, 1, none⟩ y1).setCell ⟨o, 2, none⟩ y2).setCell ⟨o, 3, none⟩ y3) o #[y0, y1, y2, y3] ∧ Below base.heap.size base ((((((((((((w.setCell ⟨n, 0, none⟩ x0).setCell ⟨n, 1, none⟩ x1).setCell ⟨n, 2, none⟩ x2).setCell ⟨n, 3, none⟩ x3).setCell ⟨n, 4, none⟩ x4).setCell ⟨n, 5, none⟩ x5).setCell ⟨n, 6, none⟩ x6).setCell ⟨n, 7, none⟩ x7).setCell ⟨o, 0, none⟩ y0).setCell ⟨o, 1, none⟩ y1).setCell ⟨o, 2, none⟩ y2).setCell ⟨o, 3, none⟩ y3) := by
  refine ⟨(Box.eight_set hn x0 x1 x2 x3 x4 x5 x6 x7).far4 h y0 y1 y2 y3, ?_, ?_⟩
  · have hf : Box ((((((((w.setCell ⟨n, 0, none⟩ x0).setCell ⟨n, 1, none⟩ x1).setCell ⟨n, 2, none⟩ x2).setCell ⟨n, 3, none⟩ x3).setCell ⟨n, 4, none⟩ x4).setCell ⟨n, 5, none⟩ x5).setCell ⟨n, 6, none⟩ x6).setCell ⟨n, 7, none⟩ x7) o #[v0, v1, v2, v3] := ((((((((ho.far (p := ⟨n, 0, none⟩) (fun e => h e.symm) x0).far (p := ⟨n, 1, none⟩) (fun e => h e.symm) x1).far (p := ⟨n, 2, none⟩) (fun e => h e.symm) x2).far (p := ⟨n, 3, none⟩) (fun e => h e.symm) x3).far (p := ⟨n, 4, none⟩) (fun e => h e.symm) x4).far (p := ⟨n, 5, none⟩) (fun e => h e.symm) x5).far (p := ⟨n, 6, none⟩) (fun e => h e.symm) x6).far (p := ⟨n, 7, none⟩) (fun e => h e.symm) x7)
    exact (((hf.set (i := 0) (by simp) y0).set (i := 1) (by simp) y1).set (i := 2) (by simp) y2).set (i := 3) (by simp) y3
  · exact (below_set_on (below_set_on (below_set_on (below_set_on (below_set_on (below_set_on (below_set_on (below_set_on (below_set_on (below_set_on (below_set_on (below_set_on A (p := ⟨n, 0, none⟩) bn x0) (p := ⟨n, 1, none⟩) bn x1) (p := ⟨n, 2, none⟩) bn x2) (p := ⟨n, 3, none⟩) bn x3) (p := ⟨n, 4, none⟩) bn x4) (p := ⟨n, 5, none⟩) bn x5) (p := ⟨n, 6, none⟩) bn x6) (p := ⟨n, 7, none⟩) bn x7) (p := ⟨o, 0, none⟩) bo y0) (p := ⟨o, 1, none⟩) bo y1) (p := ⟨o, 2, none⟩) bo y2) (p := ⟨o, 3, none⟩) bo y3)
attribute [local go_sem] cell_set_ite Near.cell Near.frozen
attribute [local go_sem ↓] Go.wp_at_zero Go.wp_at_succ
end Go.Proofs.Ytkddledajffdbaa
