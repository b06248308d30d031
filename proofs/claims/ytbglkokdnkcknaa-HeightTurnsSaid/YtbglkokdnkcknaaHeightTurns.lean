/- HeightTurns holds of any gain, and any goal and flow: a gain never leaves its limits; it goes down where too much flows, up where too little does, and stays between. No condition. -/
import Derived.Test.YtbglkokdnkcknaaHeight
import Derived.Test.YtbglkokdnkcknaaLift
namespace Go.Proofs.Ytbglkokdnkcknaa.heightTurns
open Go.ChangeShapes Go.WideShapes Go.ChangeAt Go.RowKit
set_option linter.unusedVariables false

/-- The next gain, and what it must meet. -/
theorem turn_is {a x y : Int} (x0 : 0 ≤ x) (x1 : x ≤ 1099511627776) (y0 : 0 ≤ y) (y1 : y ≤ 1099511627776) :
    ∃ v, gnV a x y = v ∧ 64 ≤ v ∧ v ≤ 1024 ∧ (9 * x < 8 * y → v < gaV a ∨ (gaV a = 64 ∧ v = 64)) ∧ (8 * y < 7 * x → gaV a < v ∨ (gaV a = 1024 ∧ v = 1024)) ∧ (¬ 9 * x < 8 * y → ¬ 8 * y < 7 * x → v = gaV a) := by
  obtain ⟨e1, e2⟩ := go_sm x0 x1 y0 y1
  have ⟨g0, g1⟩ := ga_bd a
  refine ⟨_, rfl, ?_⟩
  unfold gnV
  rw [e1, e2]
  by_cases h : 9 * x < 8 * y
  · rw [if_pos (decide_eq_true h)]
    generalize gaV a = g at *
    unfold gaV
    omega
  · rw [if_neg (by rw [decide_eq_false h]; simp)]
    by_cases h2 : 8 * y < 7 * x
    · rw [if_pos (decide_eq_true h2)]
      generalize gaV a = g at *
      unfold gaV
      omega
    · rw [if_neg (by rw [decide_eq_false h2]; simp)]
      omega

set_option maxHeartbeats 2000000 in
theorem walk (a : Int) (wa : (Lit.int .i64 a).wf = true) (b : Int) (wb : (Lit.int .u64 b).wf = true) (c : Int) (wc : (Lit.int .u64 c).wf = true) (W : World) :
    Calls Try.prog 6 #[.int .i64 a, .int .u64 b, .int .u64 c] W fun e W' => e = .returned (.bool true) ∧ Below W.heap.size W W' := by
  simp only [Lit.wf, IntKind.min, IntKind.max, IntKind.signed, IntKind.bits, Bool.and_eq_true] at wb wc
  simp at wb wc
  clear wa
  obtain ⟨x, hx⟩ : ∃ x, b / 16777216 = x := ⟨_, rfl⟩
  obtain ⟨y, hy⟩ : ∃ y, c / 16777216 = y := ⟨_, rfl⟩
  have x0 : 0 ≤ x := by omega
  have x1 : x ≤ 1099511627776 := by omega
  have y0 : 0 ≤ y := by omega
  have y1 : y ≤ 1099511627776 := by omega
  obtain ⟨v, hv, v0, v1, k1, k2, k3⟩ := turn_is (a := a) x0 x1 y0 y1
  have HS := Lib.hid (fun w => he_adapt a x y w)
  rw [hv] at HS
  obtain ⟨g, hg⟩ : ∃ g, gaV a = g := ⟨_, rfl⟩
  rw [hg] at k1 k2 k3
  have HG := Lib.hid hg
  clear hv hg
  have HGV := Lib.hid (show (a < 64 ∧ g = 64) ∨ (64 ≤ a ∧ a ≤ 1024 ∧ g = a) ∨ (1024 < a ∧ g = 1024) by rw [← HG.out]; unfold gaV; omega)
  rcases (by omega : 9 * x < 8 * y ∨ (¬ 9 * x < 8 * y ∧ 8 * y < 7 * x) ∨ (¬ 9 * x < 8 * y ∧ ¬ 8 * y < 7 * x)) with h | ⟨h, h2⟩ | ⟨h, h2⟩
  · have q := k1 h
    have t1 := decide_eq_true h
    clear k1 k2 k3
    rcases HGV.out with ⟨g0, rfl⟩ | ⟨g0, g1, rfl⟩ | ⟨g0, rfl⟩
    all_goals rcases q with q | ⟨q1, rfl⟩
    all_goals first | (exfalso; omega) | skip
    all_goals try subst q1
    all_goals clear HGV HG
    all_goals go_enter Try.func6, Try.ntmps6
    all_goals go_wp2_with (first
      | (go_at_call 17; refine (HS.out _).mono ?_; rintro e w' ⟨rfl, rfl⟩)
      | (go_at_call 19; refine (law29_awake _).mono ?_; rintro e w' ⟨rfl, rfl⟩))
    all_goals go_ret
    all_goals exact ⟨rfl, Below.refl _ _⟩
  · have q := k2 h2
    have t1 := decide_eq_false h
    have t2 := decide_eq_true h2
    clear k1 k2 k3
    rcases HGV.out with ⟨g0, rfl⟩ | ⟨g0, g1, rfl⟩ | ⟨g0, rfl⟩
    all_goals rcases q with q | ⟨q1, rfl⟩
    all_goals first | (exfalso; omega) | skip
    all_goals try subst q1
    all_goals clear HGV HG
    all_goals go_enter Try.func6, Try.ntmps6
    all_goals go_wp2_with (first
      | (go_at_call 17; refine (HS.out _).mono ?_; rintro e w' ⟨rfl, rfl⟩)
      | (go_at_call 19; refine (law29_awake _).mono ?_; rintro e w' ⟨rfl, rfl⟩))
    all_goals go_ret
    all_goals exact ⟨rfl, Below.refl _ _⟩
  · obtain rfl := k3 h h2
    have t1 := decide_eq_false h
    have t2 := decide_eq_false h2
    have t3 : (v == v) = true := by simp
    clear k1 k2 k3
    rcases HGV.out with ⟨g0, rfl⟩ | ⟨g0, g1, rfl⟩ | ⟨g0, rfl⟩
    all_goals clear HGV HG
    all_goals go_enter Try.func6, Try.ntmps6
    all_goals go_wp2_with (first
      | (go_at_call 17; refine (HS.out _).mono ?_; rintro e w' ⟨rfl, rfl⟩)
      | (go_at_call 19; refine (law29_awake _).mono ?_; rintro e w' ⟨rfl, rfl⟩))
    all_goals go_ret
    all_goals exact ⟨rfl, Below.refl _ _⟩

theorem lifted (os : Os) (started : os.Started) (H : Type) (enc : TypeId × Value → H) :
    ReturnsInHanded {} Try.checked os 6 .any (Rows.heightTurnsSpec.pre6 enc Try.prog Try.f6 Rows.heightTurnsRow.domain false) (Rows.heightTurnsSpec.post enc Try.prog Try.f6 false true false false) := by
  refine law_lift started (by kernel_rfl) Try.func6 rfl rfl ?_ (by kernel_rfl)
    (ChangeSpec.witness6 (enc := enc) (C := Try.checked) false ⟨#[], #[.int .i64 0, .int .u64 0, .int .u64 0], []⟩ 8 (by kernel_rfl) (by kernel_rfl) (by kernel_rfl) (by kernel_rfl)) ?_
  · intro ds hl
    match ds, hl with
    | [_, _, _], _ => exact ⟨rfl, rfl, rfl⟩
  · intro W base args ds p hval hA hlt hwt
    rw [Try.params6] at hA hval hwt
    obtain ⟨v0, vs0, d0, ds0, p0, q0, hargs, rfl, rfl, h0, r0⟩ := trodAll_cons hA
    obtain ⟨v1, vs1, d1, ds1, p1, q1, rfl, rfl, rfl, h1, r1⟩ := trodAll_cons r0
    obtain ⟨v2, vs2, d2, ds2, p2, q2, rfl, rfl, rfl, h2, r2⟩ := trodAll_cons r1
    obtain ⟨rfl, rfl, rfl⟩ := trodAll_nil r2
    obtain rfl : args = #[v0, v1, v2] := by cases args; simp_all
    obtain ⟨a0, rfl, rfl, rfl, w0⟩ := open_int Try.underlying3 (hval 0 3 v0 rfl rfl) h0
    obtain ⟨a1, rfl, rfl, rfl, w1⟩ := open_int Try.underlying31 (hval 1 31 v1 rfl rfl) h1
    obtain ⟨a2, rfl, rfl, rfl, w2⟩ := open_int Try.underlying31 (hval 2 31 v2 rfl rfl) h2
    exact walk a0 w0 a1 w1 a2 w2 W

theorem over : Rows.heightTurnsRow.holds Try.pinned (OpenSpec.ofChange Rows.heightTurnsSpec) :=
  OpenClaim.holds_of_wide 6 Try.f6 rfl rfl rfl rfl rfl rfl rfl ⟨rfl, rfl, rfl, rfl, rfl⟩ rfl rfl rfl rfl rfl (by kernel_rfl) Try.func6 (by kernel_rfl)
    (of_decide_eq_true (by kernel_rfl)) (by unfold Func.isWrapper; first | (rw [if_pos (by decide +kernel)]; kernel_rfl) | (rw [if_neg (by decide +kernel)]; exact ⟨rfl, rfl⟩))
    (fun os started H enc _ => lifted os started H enc)

theorem proved : Rows.HeightTurnsSaid := over
#print axioms proved
end Go.Proofs.Ytbglkokdnkcknaa.heightTurns
