/- CompareDarker holds of every level, every light, and however much less or more: darker is never clearer. No condition. -/
import Derived.Test.YtlclapedabgiaaaComp
import Derived.Test.YtlclapedabgiaaaLift
import Derived.Test.YtlclapedabgiaaaArr
namespace Go.Proofs.Ytlclapedabgiaaa.compareDarker
open Go.ChangeShapes Go.WideShapes Go.ChangeAt Go.RowKit
set_option linter.unusedVariables false

theorem sub_at {l a : Int} (l0 : -1099511627776 ≤ l) (l1 : l ≤ 1099600000000) (a0 : -1099600000000 ≤ a) (a1 : a ≤ 1099511627776) : subV l a = l - a := by
  unfold subV
  rw [clV_in (n := l) (by omega), clV_in (n := a) (by omega), clV_in (by omega)]
theorem shd_at {l a : Int} (was : Bool) (l0 : -1099511627776 ≤ l) (l1 : l ≤ 1099600000000) (a0 : -1099600000000 ≤ a) (a1 : a ≤ 1099511627776) : shdB l a was = (decide (400 ≤ l - a) || (decide (200 < l - a) && was)) := by
  unfold shdB; rw [sub_at l0 l1 a0 a1]
/-- What is the same for each of three ways. -/
def Ways (L A x y : Int) : Prop :=
  (shdB L A false = true ∧ shdB L A true = true ∧ shdB L (A - x) false = true ∧ shdB (L + y) A false = true ∧ shdB L (A - x) true = true ∧ shdB (L + y) A true = true) ∨
  (shdB L A false = false ∧ shdB L A true = true ∧ shdB L (A - x) true = true ∧ shdB (L + y) A true = true) ∨
  (shdB L A false = false ∧ shdB L A true = false)
theorem ways {L A x y : Int} (l0 : -1099511627776 ≤ L) (l1 : L ≤ 1099511627776) (a0 : -1099511627776 ≤ A) (a1 : A ≤ 1099511627776) (x0 : 0 ≤ x) (x1 : x ≤ 65535) (y0 : 0 ≤ y) (y1 : y ≤ 65535) : Ways L A x y := by
  unfold Ways
  rw [shd_at _ (by omega) (by omega) (by omega) (by omega), shd_at _ (by omega) (by omega) (by omega) (by omega), shd_at _ (by omega) (by omega) (by omega) (by omega), shd_at _ (by omega) (by omega) (by omega) (by omega), shd_at _ (by omega) (by omega) (by omega) (by omega), shd_at _ (by omega) (by omega) (by omega) (by omega)]
  by_cases h1 : 400 ≤ L - A
  · refine .inl ?_
    simp only [h1, show 400 ≤ L - (A - x) by omega, show 400 ≤ L + y - A by omega, decide_true, Bool.true_or, and_self]
  · by_cases h2 : 200 < L - A
    · refine .inr (.inl ?_)
      simp only [h1, h2, show 200 < L - (A - x) by omega, show 200 < L + y - A by omega, decide_true, decide_false, Bool.and_true, Bool.or_true, Bool.and_false, Bool.or_false, and_self]
    · refine .inr (.inr ?_)
      simp only [h1, h2, decide_false, Bool.false_and, Bool.or_false, and_self]

set_option maxRecDepth 100000 in
set_option maxHeartbeats 4000000 in
theorem way (l a x y : Int) (W : World) (x0 : 0 ≤ x) (x1 : x ≤ 65535) (y0 : 0 ≤ y) (y1 : y ≤ 65535) (L A : Int) (l0 : -1099511627776 ≤ L) (l1 : L ≤ 1099511627776) (a0 : -1099511627776 ≤ A) (a1 : A ≤ 1099511627776)
    (hL : (1099511627776 < l ∧ L = 1099511627776) ∨ (¬ 1099511627776 < l ∧ l < -1099511627776 ∧ L = -1099511627776) ∨ (¬ 1099511627776 < l ∧ ¬ l < -1099511627776 ∧ L = l))
    (hA : (1099511627776 < a ∧ A = 1099511627776) ∨ (¬ 1099511627776 < a ∧ a < -1099511627776 ∧ A = -1099511627776) ∨ (¬ 1099511627776 < a ∧ ¬ a < -1099511627776 ∧ A = a)) (hw : Ways L A x y) :
    Calls Try.prog 4 #[.int .i64 l, .int .i64 a, .agg #[.int .u16 x, .int .u16 y]] W fun e W' => e = .returned (.bool true) ∧ Below W.heap.size W W' := by
  have HW := Lib.hid hw
  clear hw
  rcases hL with ⟨h1, rfl⟩ | ⟨h1, h2, rfl⟩ | ⟨h1, h2, rfl⟩ <;> rcases hA with ⟨h3, rfl⟩ | ⟨h3, h4, rfl⟩ | ⟨h3, h4, rfl⟩
  all_goals
    go_enter Try.func4, Try.ntmps4
    go_wp2
    go_loop [10, 11, 20] (fun p s i => i = .int .i64 0 ∨ i = .int .i64 1 ∨ i = .int .i64 2) (fun _ _ i => 2 - (intOf i).toNat)
    case atStart => exact .inl rfl
    case round =>
      rcases HW.out with ⟨e1, e2, e3, e4, e5, e6⟩ | ⟨e1, e2, e3, e4⟩ | ⟨e1, e2⟩
      all_goals rcases hrel with rfl | rfl | rfl
      all_goals go_wp2_with (first
    | (go_at_call 6; refine (cp_shaded _ _ _ _).mono ?_; rintro e w' ⟨rfl, rfl⟩)
    | (go_at_call 8; refine (law17_awake _).mono ?_; rintro e w' ⟨rfl, rfl⟩))
      all_goals first
        | (go_ret; exact ⟨rfl, ((Below.refl _ _).alloc (Nat.le_refl _) _).alloc (by simp) _⟩)
        | (go_round
           case rel => first | exact .inr (.inl rfl) | exact .inr (.inr rfl)
           case measure => simp [intOf])

theorem walk (a : Int) (wa : (Lit.int .i64 a).wf = true) (l : Int) (wl : (Lit.int .i64 l).wf = true) (x : Int) (wx : (Lit.int .u16 x).wf = true) (y : Int) (wy : (Lit.int .u16 y).wf = true) (W : World) :
    Calls Try.prog 4 #[.int .i64 a, .int .i64 l, .agg #[.int .u16 x, .int .u16 y]] W fun e W' => e = .returned (.bool true) ∧ Below W.heap.size W W' := by
  simp only [Lit.wf, IntKind.min, IntKind.max, IntKind.signed, IntKind.bits, Bool.and_eq_true] at wx wy
  simp at wx wy
  obtain ⟨L, l0, l1, hL⟩ : ∃ L, -1099511627776 ≤ L ∧ L ≤ 1099511627776 ∧ ((1099511627776 < a ∧ L = 1099511627776) ∨ (¬ 1099511627776 < a ∧ a < -1099511627776 ∧ L = -1099511627776) ∨ (¬ 1099511627776 < a ∧ ¬ a < -1099511627776 ∧ L = a)) :=
    ⟨max (min a 1099511627776) (-1099511627776), by omega, by omega, by omega⟩
  obtain ⟨A, a0, a1, hA⟩ : ∃ L, -1099511627776 ≤ L ∧ L ≤ 1099511627776 ∧ ((1099511627776 < l ∧ L = 1099511627776) ∨ (¬ 1099511627776 < l ∧ l < -1099511627776 ∧ L = -1099511627776) ∨ (¬ 1099511627776 < l ∧ ¬ l < -1099511627776 ∧ L = l)) :=
    ⟨max (min l 1099511627776) (-1099511627776), by omega, by omega, by omega⟩
  exact way a l x y W (by omega) (by omega) (by omega) (by omega) L A l0 l1 a0 a1 hL hA (ways l0 l1 a0 a1 (by omega) (by omega) (by omega) (by omega))

theorem lifted (os : Os) (started : os.Started) (H : Type) (enc : TypeId × Value → H) :
    ReturnsInHanded {} Try.checked os 4 .any (Rows.compareDarkerSpec.pre6 enc Try.prog Try.f4 Rows.compareDarkerRow.domain false) (Rows.compareDarkerSpec.post enc Try.prog Try.f4 false true false false) := by
  refine law_lift started (by kernel_rfl) Try.func4 rfl rfl ?_ (by kernel_rfl)
    (ChangeSpec.witness6 (enc := enc) (C := Try.checked) false ⟨#[], #[.int .i64 0, .int .i64 0, .agg #[.int .u16 0, .int .u16 0]], []⟩ 8 (by kernel_rfl) (by kernel_rfl) (by kernel_rfl) (by kernel_rfl)) ?_
  · intro ds hl
    match ds, hl with
    | [_, _, _], _ => exact ⟨rfl, rfl, rfl⟩
  · intro W base args ds p hval hA hlt hwt
    rw [Try.params4] at hA hval hwt
    obtain ⟨v0, vs0, d0, ds0, p0, q0, hargs, rfl, rfl, h0, r0⟩ := trodAll_cons hA
    obtain ⟨v1, vs1, d1, ds1, p1, q1, rfl, rfl, rfl, h1, r1⟩ := trodAll_cons r0
    obtain ⟨v2, vs2, d2, ds2, p2, q2, rfl, rfl, rfl, h2, r2⟩ := trodAll_cons r1
    obtain ⟨rfl, rfl, rfl⟩ := trodAll_nil r2
    obtain rfl : args = #[v0, v1, v2] := by cases args; simp_all
    obtain ⟨a0, rfl, rfl, rfl, w0⟩ := open_int Try.underlying3 (hval 0 3 v0 rfl rfl) h0
    obtain ⟨a1, rfl, rfl, rfl, w1⟩ := open_int Try.underlying3 (hval 1 3 v1 rfl rfl) h1
    obtain ⟨xs2, rfl, l2, w2⟩ := open_int_cells Try.underlying25 Try.underlying24 (by kernel_rfl) (by kernel_rfl) (hval 2 25 v2 rfl rfl) h2
    match xs2, l2, w2 with
    | [x2_0, x2_1], _, w2 =>
    exact walk a0 w0 a1 w1 x2_0 (w2 _ (by simp)) x2_1 (w2 _ (by simp)) W

theorem over : Rows.compareDarkerRow.holds Try.pinned (OpenSpec.ofChange Rows.compareDarkerSpec) :=
  OpenClaim.holds_of_wide 4 Try.f4 rfl rfl rfl rfl rfl rfl rfl ⟨rfl, rfl, rfl, rfl, rfl⟩ rfl rfl rfl rfl rfl (by kernel_rfl) Try.func4 (by kernel_rfl)
    (of_decide_eq_true (by kernel_rfl)) (by unfold Func.isWrapper; first | (rw [if_pos (by decide +kernel)]; kernel_rfl) | (rw [if_neg (by decide +kernel)]; exact ⟨rfl, rfl⟩))
    (fun os started H enc _ => lifted os started H enc)

theorem proved : Rows.CompareDarkerSaid := over
#print axioms proved
end Go.Proofs.Ytlclapedabgiaaa.compareDarker
