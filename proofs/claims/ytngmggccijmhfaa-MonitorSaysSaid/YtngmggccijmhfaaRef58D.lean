/- Contracts of the document's monitor: ago, part, needs, New. -/
import Derived.Test.YtngmggccijmhfaaRef58C
namespace Go.Proofs.Ytngmggccijmhfaa
open Go.RowKit
set_option linter.unusedVariables false
set_option linter.unusedSimpArgs false
set_option maxRecDepth 100000
attribute [local go_sem] cell_set_ite Near.cell Near.frozen

theorem r8_ago (kept : Int) (now : Bool) (k0 : -1 ≤ kept) (k1 : kept ≤ 1001) (w : World) : Calls Try.prog 59 #[.int .i64 kept, .bool now] w fun e w' => e = .returned (.int .i64 (agoV kept now)) ∧ w = w' := by
  cases now
  · by_cases h : kept < 0
    · have t0 := decide_eq_true h
      rw [show agoV kept false = -1 by unfold agoV; rw [if_neg (by simp), if_pos h]]
      obtain rfl : kept = -1 := by omega
      go_enter Try.func59, Try.ntmps59
      go_wp2
      all_goals go_ret
      all_goals exact ⟨rfl, rfl⟩
    · have t0 := decide_eq_false h
      rw [show agoV kept false = min kept 1000 + 1 by unfold agoV; rw [if_neg (by simp), if_neg h]]
      by_cases h2 : 1000 < kept
      · have t1 := decide_eq_true h2
        obtain rfl : kept = 1001 := by omega
        go_enter Try.func59, Try.ntmps59
        go_wp2
        all_goals go_ret
        all_goals exact ⟨rfl, rfl⟩
      · have t1 := decide_eq_false h2
        have wm : IntKind.i64.wrap (kept + 1) = kept + 1 := by rw [IntKind.wrap_i64]; omega
        go_enter Try.func59, Try.ntmps59
        go_wp2
        all_goals go_ret
        all_goals exact ⟨ri_ (by omega), rfl⟩
  · go_enter Try.func59, Try.ntmps59
    go_wp2
    all_goals go_ret
    all_goals exact ⟨rfl, rfl⟩
theorem ago_bd {kept : Int} (now : Bool) (k0 : -1 ≤ kept) (k1 : kept ≤ 1001) : -1 ≤ agoV kept now ∧ agoV kept now ≤ 1001 := by
  unfold agoV; repeat' split
  all_goals omega

theorem terms_lit (w : World) (a b : Int) (h : b ≤ 9223372036854775807) : Terms (w.alloc (.cells #[.int .i64 2, .int .i64 a, .int .i64 b] 36)) (some ⟨w.heap.size, 0, none⟩) 1 (fun _ => ⟨2, a, b⟩) := by
  refine ⟨fun i hi => h, fun _ => ⟨w.heap.size, 0, rfl, by simp, fun i hi => ?_⟩⟩
  rw [World.cell?_alloc_at _ _ _ _ (by simp), World.cell?_alloc_at _ _ _ _ (by simp), World.cell?_alloc_at _ _ _ _ (by simp)]
  match i, hi with
  | 0, _ => exact ⟨rfl, rfl, rfl⟩
theorem outs_lit (w : World) (o : Ou) (t : TypeId) : Outs (w.alloc (.cells o.cells t)) (some ⟨w.heap.size, 0, none⟩) 1 (fun _ => o) := fun _ => by
  refine ⟨w.heap.size, 0, rfl, by simp, fun i hi j hj => ?_⟩
  rw [World.cell?_alloc_at _ _ _ _ (by simp)]
  match i, hi with
  | 0, _ => rw [show 0 + 0 * 11 + j = j by omega]
def paB (t : Tm) (o : Ou) (a b : Bool) (kept : Int) : Bool := if ndN t.op = 0 then alB t o else if ndN t.op = 1 then unB t a kept else biB t.op a b kept
def paV (t : Tm) (a b : Bool) (kept : Int) : Int := if ndN t.op = 0 then 0 else if ndN t.op = 1 then unV t a kept else biV t.op a b kept
theorem op_ways {t : Tm} (h : myB t = true) : t.op = 1 ∨ t.op = 2 ∨ t.op = 3 ∨ t.op = 6 ∨ t.op = 7 ∨ t.op = 4 ∨ t.op = 5 ∨ t.op = 8 := by
  rcases my_ways h with ⟨e, h1 | ⟨_, h2⟩⟩ | ⟨e, _, _, h3 | ⟨_, h6⟩ | ⟨_, _, h7⟩⟩ | ⟨e, h1, h2, h3, h6, h7⟩
  · have : t.op = 1 := by simpa using h1
    omega
  · have : t.op = 2 := by simpa using h2
    omega
  · have : t.op = 3 := by simpa using h3
    omega
  · have : t.op = 6 := by simpa using h6
    omega
  · have : t.op = 7 := by simpa using h7
    omega
  · have g3 : t.op ≠ 3 := by simpa using h3
    have g6 : t.op ≠ 6 := by simpa using h6
    have g7 : t.op ≠ 7 := by simpa using h7
    unfold ndN at e
    rw [if_neg (by omega)] at e
    by_cases h : t.op = 4 ∨ t.op = 5 ∨ t.op = 8
    · omega
    · rw [if_neg h] at e; omega
theorem r8_needs (op : Int) (w : World) : Calls Try.prog 34 #[.int .i64 op] w fun e w' => e = .returned (.int .i64 (ndN op)) ∧ w = w' := by
  have hf : ∀ k : Int, op ≠ k → (op == k) = false := fun k h => by simpa using h
  have ways : op = 3 ∨ op = 6 ∨ op = 7 ∨ op = 4 ∨ op = 5 ∨ op = 8 ∨ (op ≠ 3 ∧ op ≠ 6 ∧ op ≠ 7 ∧ op ≠ 4 ∧ op ≠ 5 ∧ op ≠ 8) := by omega
  rcases ways with rfl | rfl | rfl | rfl | rfl | rfl | ⟨h3, h6, h7, h4, h5, h8⟩
  case inr.inr.inr.inr.inr.inr =>
    have z3 := hf 3 h3
    have z6 := hf 6 h6
    have z7 := hf 7 h7
    have z4 := hf 4 h4
    have z5 := hf 5 h5
    have z8 := hf 8 h8
    have hn : ndN op = 0 := by unfold ndN; rw [if_neg (by omega), if_neg (by omega)]
    rw [hn]
    clear hf h3 h6 h7 h4 h5 h8 hn
    go_enter Try.func34, Try.ntmps34
    go_wp2
    all_goals go_ret
    all_goals exact ⟨rfl, rfl⟩
  all_goals
    clear hf
    go_enter Try.func34, Try.ntmps34
    go_wp2
    all_goals go_ret
    all_goals exact ⟨rfl, rfl⟩

set_option maxHeartbeats 8000000 in
theorem r8_part (op ta tb : Int) (hb : tb ≤ 9223372036854775807) (hm : myB ⟨op, ta, tb⟩ = true) (kept : Int) (k0 : -1 ≤ kept) (k1 : kept ≤ 1001) (o : Ou) (a b : Bool) (w : World) :
    Calls Try.prog 35 #[.agg #[.int .i64 op, .int .i64 ta, .int .i64 tb], .int .i64 kept, .agg o.cells, .bool a, .bool b] w fun e w' => e = .returned (.tuple #[.bool (paB ⟨op, ta, tb⟩ o a b kept), .int .i64 (paV ⟨op, ta, tb⟩ a b kept)]) ∧ Below w.heap.size w w' := by
  have A0 : Below w.heap.size w w := Below.refl _ _
  have HG := Lib.hid (fun now w => r8_ago kept now k0 k1 w)
  have ways := op_ways hm
  dsimp only at ways
  rcases ways with rfl | rfl | rfl | rfl | rfl | rfl | rfl | rfl
  · -- true
    rw [show paB ⟨1, ta, tb⟩ o a b kept = true from rfl, show paV ⟨1, ta, tb⟩ a b kept = 0 from rfl]
    unfold Ou.cells
    clear HG hm k0 k1 hb
    go_enter Try.func35, Try.ntmps35
    go_wp2
    exact bodyPost_ret (v := .tuple #[.bool true, .int .i64 0]) (by simp [results, Try.results35, go_sem]) rfl ⟨rfl, by (repeat (first | (with_reducible exact Below.refl _ _) | (with_reducible assumption) | (with_reducible refine Near.up _ ?_) | (with_reducible refine Below.drew ?_) | (with_reducible refine below_alloc_on ?_ _) | (with_reducible refine below_set_on ?_ (by first | (simp; done) | (simp; omega) | omega) _)))⟩
  · -- an atom
    have HH := Lib.hid (fun W (h : Terms W (some ⟨w.heap.size + 1 + 1, 0, none⟩) 1 (fun _ => ⟨2, ta, tb⟩)) (ho : Outs W (some ⟨w.heap.size + 1 + 1 + 1, 0, none⟩) 1 (fun _ => o)) => r7_holds_one (some ⟨w.heap.size + 1 + 1, 0, none⟩) (some ⟨w.heap.size + 1 + 1 + 1, 0, none⟩) 1 1 ta tb hm o W h ho)
    rw [show paB ⟨2, ta, tb⟩ o a b kept = alB ⟨2, ta, tb⟩ o from rfl, show paV ⟨2, ta, tb⟩ a b kept = 0 from rfl]
    generalize alB ⟨2, ta, tb⟩ o = v at *
    have h1 : ((w.alloc (.cells #[.int .i64 2, .int .i64 ta, .int .i64 tb] 36)).alloc (.cells o.cells 29)).heap.size = w.heap.size + 1 + 1 := by simp
    have T1 := terms_lit ((w.alloc (.cells #[.int .i64 2, .int .i64 ta, .int .i64 tb] 36)).alloc (.cells o.cells 29)) ta tb hb
    have O1 := outs_lit (((w.alloc (.cells #[.int .i64 2, .int .i64 ta, .int .i64 tb] 36)).alloc (.cells o.cells 29)).alloc (.cells #[.int .i64 2, .int .i64 ta, .int .i64 tb] 36)) o 29
    have h2 : (((w.alloc (.cells #[.int .i64 2, .int .i64 ta, .int .i64 tb] 36)).alloc (.cells o.cells 29)).alloc (.cells #[.int .i64 2, .int .i64 ta, .int .i64 tb] 36)).heap.size = w.heap.size + 1 + 1 + 1 := by simp
    rw [h1] at T1
    rw [h2] at O1
    have HX := Lib.hid (HH.out _ (T1.below (below_alloc_on (Below.refl _ _) (.cells o.cells 29))) O1)
    clear HH T1 O1 h1 h2 HG hm k0 k1 hb
    unfold Ou.cells at HX ⊢
    go_enter Try.func35, Try.ntmps35
    go_wp2_with (fail)
    refine HX.out.mono ?_
    rintro e w1 ⟨rfl, hb⟩
    have A1 : Below w.heap.size w w1 := below_call (by (repeat (first | (with_reducible exact Below.refl _ _) | (with_reducible assumption) | (with_reducible refine Near.up _ ?_) | (with_reducible refine Below.drew ?_) | (with_reducible refine below_alloc_on ?_ _) | (with_reducible refine below_set_on ?_ (by first | (simp; done) | (simp; omega) | omega) _)))) hb
    clear hb HX
    go_wp2
    exact bodyPost_ret (v := .tuple #[.bool v, .int .i64 0]) (by simp [results, Try.results35, go_sem]) rfl ⟨rfl, A1⟩
  · -- not
    rw [show paB ⟨3, ta, tb⟩ o a b kept = !a from rfl, show paV ⟨3, ta, tb⟩ a b kept = 0 from rfl]
    unfold Ou.cells
    clear HG hm k0 k1 hb
    go_enter Try.func35, Try.ntmps35
    go_wp2
    exact bodyPost_ret (v := .tuple #[.bool (!a), .int .i64 0]) (by simp [results, Try.results35, go_sem]) rfl ⟨rfl, by (repeat (first | (with_reducible exact Below.refl _ _) | (with_reducible assumption) | (with_reducible refine Near.up _ ?_) | (with_reducible refine Below.drew ?_) | (with_reducible refine below_alloc_on ?_ _) | (with_reducible refine below_set_on ?_ (by first | (simp; done) | (simp; omega) | omega) _)))⟩
  · -- once
    rw [show paB ⟨6, ta, tb⟩ o a b kept = (decide (agoV kept a ≠ -1) && decide (agoV kept a ≤ ta)) from rfl, show paV ⟨6, ta, tb⟩ a b kept = agoV kept a from rfl]
    have bd := ago_bd a k0 k1
    have HA := Lib.hid (fun w => HG.out a w)
    generalize agoV kept a = v at *
    unfold Ou.cells
    by_cases hv : 0 ≤ v
    · have t1 := decide_eq_true hv
      rw [decide_eq_true (p := v ≠ -1) (by omega), Bool.true_and]
      clear HG hm k0 k1 hb hv bd
      go_enter Try.func35, Try.ntmps35
      go_wp2_with (go_at_call 59; refine (HA.out _).mono ?_; rintro e w' ⟨rfl, rfl⟩)
      exact bodyPost_ret (v := .tuple #[.bool (decide (v ≤ ta)), .int .i64 v]) (by simp [results, Try.results35, go_sem]) rfl ⟨rfl, by (repeat (first | (with_reducible exact Below.refl _ _) | (with_reducible assumption) | (with_reducible refine Near.up _ ?_) | (with_reducible refine Below.drew ?_) | (with_reducible refine below_alloc_on ?_ _) | (with_reducible refine below_set_on ?_ (by first | (simp; done) | (simp; omega) | omega) _)))⟩
    · have t1 := decide_eq_false hv
      rw [decide_eq_false (p := v ≠ -1) (by omega), Bool.false_and]
      clear HG hm k0 k1 hb hv bd
      go_enter Try.func35, Try.ntmps35
      go_wp2_with (go_at_call 59; refine (HA.out _).mono ?_; rintro e w' ⟨rfl, rfl⟩)
      exact bodyPost_ret (v := .tuple #[.bool false, .int .i64 v]) (by simp [results, Try.results35, go_sem]) rfl ⟨rfl, by (repeat (first | (with_reducible exact Below.refl _ _) | (with_reducible assumption) | (with_reducible refine Near.up _ ?_) | (with_reducible refine Below.drew ?_) | (with_reducible refine below_alloc_on ?_ _) | (with_reducible refine below_set_on ?_ (by first | (simp; done) | (simp; omega) | omega) _)))⟩
  · -- always
    rw [show paB ⟨7, ta, tb⟩ o a b kept = (decide (agoV kept (!a) = -1) || decide (ta < agoV kept (!a))) from rfl, show paV ⟨7, ta, tb⟩ a b kept = agoV kept (!a) from rfl]
    have bd := ago_bd (!a) k0 k1
    have HA := Lib.hid (fun w => HG.out (!a) w)
    generalize agoV kept (!a) = v at *
    unfold Ou.cells
    by_cases hv : v < 0
    · have t1 := decide_eq_true hv
      rw [decide_eq_true (p := v = -1) (by omega), Bool.true_or]
      clear HG hm k0 k1 hb hv bd
      go_enter Try.func35, Try.ntmps35
      go_wp2_with (go_at_call 59; refine (HA.out _).mono ?_; rintro e w' ⟨rfl, rfl⟩)
      exact bodyPost_ret (v := .tuple #[.bool true, .int .i64 v]) (by simp [results, Try.results35, go_sem]) rfl ⟨rfl, by (repeat (first | (with_reducible exact Below.refl _ _) | (with_reducible assumption) | (with_reducible refine Near.up _ ?_) | (with_reducible refine Below.drew ?_) | (with_reducible refine below_alloc_on ?_ _) | (with_reducible refine below_set_on ?_ (by first | (simp; done) | (simp; omega) | omega) _)))⟩
    · have t1 := decide_eq_false hv
      rw [decide_eq_false (p := v = -1) (by omega), Bool.false_or]
      clear HG hm k0 k1 hb hv bd
      go_enter Try.func35, Try.ntmps35
      go_wp2_with (go_at_call 59; refine (HA.out _).mono ?_; rintro e w' ⟨rfl, rfl⟩)
      exact bodyPost_ret (v := .tuple #[.bool (decide (ta < v)), .int .i64 v]) (by simp [results, Try.results35, go_sem]) rfl ⟨rfl, by (repeat (first | (with_reducible exact Below.refl _ _) | (with_reducible assumption) | (with_reducible refine Near.up _ ?_) | (with_reducible refine Below.drew ?_) | (with_reducible refine below_alloc_on ?_ _) | (with_reducible refine below_set_on ?_ (by first | (simp; done) | (simp; omega) | omega) _)))⟩
  · -- and
    rw [show paB ⟨4, ta, tb⟩ o a b kept = (a && b) from rfl, show paV ⟨4, ta, tb⟩ a b kept = 0 from rfl]
    unfold Ou.cells
    clear HG hm k0 k1 hb
    cases a <;> cases b
    all_goals
      go_enter Try.func35, Try.ntmps35
      go_wp2
      all_goals go_ret2
      all_goals exact ⟨rfl, by (repeat (first | (with_reducible exact Below.refl _ _) | (with_reducible assumption) | (with_reducible refine Near.up _ ?_) | (with_reducible refine Below.drew ?_) | (with_reducible refine below_alloc_on ?_ _) | (with_reducible refine below_set_on ?_ (by first | (simp; done) | (simp; omega) | omega) _)))⟩
  · -- or
    rw [show paB ⟨5, ta, tb⟩ o a b kept = (a || b) from rfl, show paV ⟨5, ta, tb⟩ a b kept = 0 from rfl]
    unfold Ou.cells
    clear HG hm k0 k1 hb
    cases a <;> cases b
    all_goals
      go_enter Try.func35, Try.ntmps35
      go_wp2
      all_goals go_ret2
      all_goals exact ⟨rfl, by (repeat (first | (with_reducible exact Below.refl _ _) | (with_reducible assumption) | (with_reducible refine Near.up _ ?_) | (with_reducible refine Below.drew ?_) | (with_reducible refine below_alloc_on ?_ _) | (with_reducible refine below_set_on ?_ (by first | (simp; done) | (simp; omega) | omega) _)))⟩
  · -- since
    rw [show paB ⟨8, ta, tb⟩ o a b kept = (b || (a && decide (kept = 1))) from rfl, show paV ⟨8, ta, tb⟩ a b kept = if (b || (a && decide (kept = 1))) = true then 1 else 0 from rfl]
    unfold Ou.cells
    have tk : (kept == 1) = decide (kept = 1) := by by_cases h : kept = 1 <;> simp [h]
    clear HG hm k0 k1 hb
    cases hk : decide (kept = 1)
    all_goals
      rw [hk] at tk
      cases a <;> cases b
      all_goals
        go_enter Try.func35, Try.ntmps35
        go_wp2
        all_goals go_ret2
        all_goals exact ⟨rfl, by (repeat (first | (with_reducible exact Below.refl _ _) | (with_reducible assumption) | (with_reducible refine Near.up _ ?_) | (with_reducible refine Below.drew ?_) | (with_reducible refine below_alloc_on ?_ _) | (with_reducible refine below_set_on ?_ (by first | (simp; done) | (simp; omega) | omega) _)))⟩
end Go.Proofs.Ytngmggccijmhfaa
