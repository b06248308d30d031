/- The document's reader: takeReal. -/
import Derived.Test.YteeiebopfjlffaaRgN
namespace Go.Proofs.Yteeiebopfjlffaa
open Go.RowKit Ieee
set_option linter.unusedVariables false
set_option linter.unusedSimpArgs false
set_option maxRecDepth 100000
attribute [local go_sem] cell_set_ite run_store_real Near.cell Near.frozen

theorem drop_rdR (l : List UInt8) (a W : Nat) (ha : a ≤ l.length) (h : rdW (l.drop a) W = false) : rdR (l.drop a) W = l.drop (a + W) ∧ a + W ≤ l.length := by
  have hd : (l.drop a).length = l.length - a := List.length_drop
  have hle : W ≤ (l.drop a).length := by have := of_decide_eq_false h; omega
  unfold rdR
  rw [if_pos hle, List.drop_drop]
  exact ⟨rfl, by omega⟩
theorem Box.put3 {w : World} {K : Nat} {p q r : Value} (h : Box w K #[p, q, r]) (x y z : Value) : Box (((w.setCell ⟨K, 0, none⟩ x).setCell ⟨K, 1, none⟩ y).setCell ⟨K, 2, none⟩ z) K #[x, y, z] := by
  have := ((h.set (i := 0) (by simp) x).set (i := 1) (by simp) y).set (i := 2) (by simp) z
  simpa using this
theorem ret_real {Q : Ending → World → Prop} {a : Act} {wE : World} {K x a' : Nat} {l : List UInt8} {ok' : Bool} (Z : Box wE K #[.string ⟨l.toArray⟩, .int .i64 a', .bool ok']) (ht2 : (a.tmps[2]?).getD undef = .float .f64 x)
    (ht3 : (a.tmps[3]?).getD undef = .pointer (some ⟨K, 0, none⟩)) (hd : a.defers = []) (h : Q (.returned (.tuple #[.float .f64 x, rV l a' ok'])) wE) : bodyPost Try.prog Try.f46 Q .ret a wE := by
  have c0 := Z.2.1 0
  have c1 := Z.2.1 1
  have c2 := Z.2.1 2
  simp only [List.getElem?_toArray, List.getElem?_cons_succ, List.getElem?_cons_zero] at c0 c1 c2
  exact bodyPost_ret (v := .tuple #[.float .f64 x, .agg #[.string ⟨l.toArray⟩, .int .i64 a', .bool ok']]) (by simp [results, Try.results46, go_sem, ht2, ht3, c0, c1, c2]) hd h
/-- What takeReal answers. -/
def RgR (l : List UInt8) (a : Nat) (ok : Bool) (w : World) (e : Ending) (w' : World) : Prop :=
  ∃ x a' ok', e = .returned (.tuple #[.float .f64 x, rV l a' ok']) ∧ ok' = (ok && !reW (l.drop a)) ∧ a' ≤ l.length ∧ x < 18446744073709551616 ∧ (ok' = true → nm x = reV (l.drop a) ∧ l.drop a' = reR (l.drop a)) ∧ Below w.heap.size w w'
set_option maxHeartbeats 4000000 in
theorem rg_real_no (l : List UInt8) (a : Nat) (ok : Bool) (ha : a ≤ l.length) (hl : l.length ≤ 100000) (hw : (ok && !rdW (l.drop a) 1) = false) (w : World) :
    Calls Try.prog 46 #[rV l a ok] w (RgR l a ok w) := by
  have D0 : Below w.heap.size w w := Below.refl _ _
  have K1 := Lib.hid fun w => rg_num_no l a 1 ok (by omega) (by omega) ha hl hw w
  have hF : (ok && !reW (l.drop a)) = false := by
    cases ok
    · rfl
    · have : rdW (l.drop a) 1 = true := by simpa using hw
      unfold reW; rw [this]; rfl
  have HF := Lib.hid hF
  clear hw hF
  unfold rV at K1
  show Calls _ _ #[.agg #[.string ⟨l.toArray⟩, .int .i64 a, .bool ok]] w _
  go_enter Try.func46, Try.ntmps46
  go_wp2_with (fail)
  refine (K1.out _).mono ?_
  rintro e w1 ⟨rfl, b1⟩
  have A1 := below_call (below_alloc_on (below_alloc_on D0 _) _) b1
  have X1 : Box w1 (w.heap.size + 1) _ := (box_at (w.alloc _) _ _ (by simp)).below b1
  have d0 := X1.2.1 0
  have d1 := X1.2.1 1
  have d2 := X1.2.1 2
  have f0 := X1.2.2 0
  have f1 := X1.2.2 1
  have f2 := X1.2.2 2
  simp only [List.getElem?_toArray, List.getElem?_cons_succ, List.getElem?_cons_zero] at d0 d1 d2
  go_wp2_with (fail)
  have A2 := below_alloc_on A1 (.cells #[.string ⟨l.toArray⟩, .int .i64 a, .bool false] 52)
  have lt1 := X1.1
  have HX := Lib.hid X1
  clear X1
  go_region
  go_wp2_with (fail)
  refine ret_real (K := w.heap.size + 1) (x := 0) (a' := a) (ok' := false) (l := l) ?_ rfl rfl rfl ⟨0, a, false, rfl, HF.out.symm, ha, by omega, fun h => absurd h (by simp), by (repeat (first | (with_reducible exact Below.refl _ _) | (with_reducible assumption) | (with_reducible refine Near.up _ ?_) | (with_reducible refine Below.drew ?_) | (with_reducible refine below_alloc_on ?_ _) | (with_reducible refine below_set_on ?_ (by first | (simp; done) | (simp; omega) | omega) _)))⟩
  exact ((HX.out.put3 _ _ _).alloc _).drew
end Go.Proofs.Yteeiebopfjlffaa
